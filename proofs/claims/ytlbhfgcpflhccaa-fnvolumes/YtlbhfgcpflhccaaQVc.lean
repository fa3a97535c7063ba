/- For every two slices of bytes laws.FnVolumes answers true, and both read afterwards as they read before: of drawn volumes what is read is what the blocks are, and no op but a write, a trim or a crash changes any; no condition. -/
import Derived.Test.YtlbhfgcpflhccaaQVa
import Derived.Test.YtlbhfgcpflhccaaQVb
import Derived.Maps.AppendAt
import Derived.Test.YtlbhfgcpflhccaaIDo
import Derived.Test.YtlbhfgcpflhccaaIIn
import Derived.Test.YtlbhfgcpflhccaaSIn
import Derived.Test.YtlbhfgcpflhccaaIGv
import Derived.Test.YtlbhfgcpflhccaaVBase
import Derived.Shelf.Strings.OnBuilder
import Derived.Test.YtlbhfgcpflhccaaProg
import Derived.Test.YtlbhfgcpflhccaaIn
import Derived.Test.YtlbhfgcpflhccaaOForI
import Derived.Test.YtlbhfgcpflhccaaOForS
import Derived.Test.YtlbhfgcpflhccaaVMark
import Derived.Deep.DeepCutAuto
import Derived.Deep.RegionHeld
import Derived.Laws.StructEq
import Derived.Test.YtlbhfgcpflhccaaRows
namespace Go.Proofs.Ytlbhfgcpflhccaa
set_option maxRecDepth 100000
open Go Go.ChangeShapes Go.WideShapes Go.ChangeAt Go.RowKit G00541
/-- what the model's play keeps -/
structure MP (w : World) (X : Nat) (v : Vol) (aB : Option Addr) (kB : Nat) (aL : Option Addr) (kL : Nat) (dv : Value) (d : List Bool) (wr : World) : Prop where
  be : Below w.heap.size w wr
  bz : wr.heap[w.heap.size]? = some (.cells #[.slice none 0 0, .int .i64 0, .slice none 0 0, .int .i64 0] 28)
  bv : wr.heap[X]? = some (.cells #[.slice aB v.1.length kB, .int .i64 v.2.1, .slice aL v.2.2.1.length kL, .int .i64 v.2.2.2] 28)
  ss : Ss wr.heap.size aB v.1 wr
  rs : Rs wr.heap.size aL v.2.2.1 wr
  tb : TB (X + 1) dv d wr
  wx : w.heap.size < X
theorem MP.on {w : World} {X : Nat} {v : Vol} {aB : Option Addr} {kB : Nat} {aL : Option Addr} {kL : Nat} {dv : Value} {d : List Bool} {wr w' : World} (h : MP w X v aB kB aL kL dv d wr) (g : Below wr.heap.size wr w') : MP w X v aB kB aL kL dv d w' :=
  ⟨h.be.trans (g.mono h.be.size), (g.block _ (kboxV h.bz)).trans h.bz, (g.block _ (kboxV h.bv)).trans h.bv, (h.ss.below g).mono g.size, (h.rs.below g).mono g.size, h.tb.below g, h.wx⟩
/-- one truth value is appended -/
theorem MP.push {w : World} {X : Nat} {v : Vol} {aB : Option Addr} {kB : Nat} {aL : Option Addr} {kL : Nat} {dv : Value} {d : List Bool} {wr : World} (h : MP w X v aB kB aL kL dv d wr) (b : Bool) (hm : d.length + 1 ≤ 10000) :
    ∃ v' w', (∀ ty, (Builtin.append_ #[29, 29] ty #[dv, .slice (some ⟨wr.heap.size, 0, none⟩) 1 1]).run Try.prog (wr.alloc (.cells #[.bool b] 4)) = .ok v' w') ∧ MP w X v aB kB aL kL v' (d ++ [b]) w' := by
  have hX := kboxV h.bv
  obtain ⟨v', w', r, ht, hg, ho⟩ := h.tb.push (by omega) b hm
  have gb := boxB wr (.cells #[.bool b] 4)
  have h1 := h.on gb
  have hlt : ∀ k, dv.ownBlock = some k → X + 1 ≤ k := fun k hk => (World.ownsRow.lt h.tb.row k hk).1
  have hk : ∀ q, q < (wr.alloc (.cells #[.bool b] 4)).heap.size → q ≤ X → w'.heap[q]? = (wr.alloc (.cells #[.bool b] 4)).heap[q]? := fun q h2 h3 => hg.block q h2 (fun e => by have := hlt q e.symm; omega)
  have hX1 := kboxV h1.bv
  have hwx := h.wx
  refine ⟨v', w', r, ⟨?_, (hk _ (kboxV h1.bz) (by omega)).trans h1.bz, (hk _ hX1 (Nat.le_refl _)).trans h1.bv, ss_apart h1.tb h1.ss (Nat.le_refl _) hg, rs_apart h1.tb h1.rs (Nat.le_refl _) hg, ht, hwx⟩⟩
  exact ⟨hg.os.trans h1.be.os, hg.tape.trans h1.be.tape, hg.output.trans h1.be.output, Nat.le_trans h1.be.size hg.size, fun q hq => (hk q (Nat.lt_of_lt_of_le hq h1.be.size) (by omega)).trans (h1.be.block q hq)⟩
/-- another volume is put into its box -/
theorem MP.put {w : World} {X : Nat} {v : Vol} {aB : Option Addr} {kB : Nat} {aL : Option Addr} {kL : Nat} {dv : Value} {d : List Bool} {wr : World} (h : MP w X v aB kB aL kL dv d wr) (u : Vol) (b1 : Option Addr) (j1 : Nat) (b2 : Option Addr) (j2 : Nat) (hs : Ss wr.heap.size b1 u.1 wr) (hr : Rs wr.heap.size b2 u.2.2.1 wr) :
    MP w X u b1 j1 b2 j2 dv d ((((wr.setCell ⟨X, 0, none⟩ (.slice b1 u.1.length j1)).setCell ⟨X, 1, none⟩ (.int .i64 u.2.1)).setCell ⟨X, 2, none⟩ (.slice b2 u.2.2.1.length j2)).setCell ⟨X, 3, none⟩ (.int .i64 u.2.2.2)) := by
  have hX := kboxV h.bv
  have hwx := h.wx
  have hk : ∀ q, q ≠ X → ((((wr.setCell ⟨X, 0, none⟩ (.slice b1 u.1.length j1)).setCell ⟨X, 1, none⟩ (.int .i64 u.2.1)).setCell ⟨X, 2, none⟩ (.slice b2 u.2.2.1.length j2)).setCell ⟨X, 3, none⟩ (.int .i64 u.2.2.2)).heap[q]? = wr.heap[q]? := fun q h1 => by
    rw [keepB _ _ _ _ _ h1, keepB _ _ _ _ _ h1, keepB _ _ _ _ _ h1, keepB _ _ _ _ _ h1]
  have hz : ((((wr.setCell ⟨X, 0, none⟩ (.slice b1 u.1.length j1)).setCell ⟨X, 1, none⟩ (.int .i64 u.2.1)).setCell ⟨X, 2, none⟩ (.slice b2 u.2.2.1.length j2)).setCell ⟨X, 3, none⟩ (.int .i64 u.2.2.2)).heap.size = wr.heap.size := by simp [World.setCell]
  have hc : ∀ R o, R ≠ X → ((((wr.setCell ⟨X, 0, none⟩ (.slice b1 u.1.length j1)).setCell ⟨X, 1, none⟩ (.int .i64 u.2.1)).setCell ⟨X, 2, none⟩ (.slice b2 u.2.2.1.length j2)).setCell ⟨X, 3, none⟩ (.int .i64 u.2.2.2)).cell? ⟨R, o, none⟩ = wr.cell? ⟨R, o, none⟩ := fun R o hR => by unfold World.cell?; simp only [hk R hR]
  refine ⟨setB (setB (setB (setB h.be _ _ (by omega) _) _ _ (by omega) _) _ _ (by omega) _) _ _ (by omega) _, (hk _ (by omega)).trans h.bz, ?_, ?_, ?_, h.tb.keep (fun k hk' => hk k (by have := (World.ownsRow.lt h.tb.row k hk').1; omega)), hwx⟩
  · have := box_set (box_set (box_set (box_set h.bv 0 (.slice b1 u.1.length j1)) 1 (.int .i64 u.2.1)) 2 (.slice b2 u.2.2.1.length j2)) 3 (.int .i64 u.2.2.2)
    simpa using this
  · refine ⟨fun h0 => ?_⟩
    obtain ⟨R, off, e, hR, hcc⟩ := GSl.cell hs h0
    have hne : R ≠ X := fun e2 => by
      subst e2
      have h1 := hcc 0 h0 0 (by decide)
      rw [List.getElem_map, box_cell h.bv] at h1
      rcases (show off = 0 ∨ off = 1 ∨ off = 2 ∨ off = 3 ∨ 4 ≤ off by omega) with r | r | r | r | r
      · subst r; simp [scell] at h1
      · subst r; simp [scell] at h1
      · subst r; simp [scell] at h1
      · subst r; simp [scell] at h1
      · rw [Array.getElem?_eq_none (by simp; omega)] at h1; simp [scell] at h1
    refine ⟨R, off, e, by rw [hz]; exact hR, fun i hi j hj => ?_⟩
    rw [hc _ _ hne]
    exact hcc i hi j hj
  · refine ⟨fun h0 => ?_⟩
    obtain ⟨R, off, e, hR, hcc⟩ := GSl.cell hr h0
    have hne : R ≠ X := fun e2 => by
      subst e2
      have h1 := hcc 0 h0 3 (by decide)
      rw [List.getElem_map, box_cell h.bv] at h1
      rcases (show off = 0 ∨ 1 ≤ off by omega) with r | r
      · subst r; simp [rcells] at h1
      · rw [Array.getElem?_eq_none (by simp; omega)] at h1; simp [rcells] at h1
    refine ⟨R, off, e, by rw [hz]; exact hR, fun i hi j hj => ?_⟩
    rw [hc _ _ hne]
    exact hcc i hi j hj
/-- l6Do's answer in one form -/
theorem SdOut.uni {P : Nat → Prop} {a1 : Option Addr} {n1 c1 : Nat} {F : Int} {a2 : Option Addr} {n2 c2 : Nat} {s : Int} {o : Option Vol} {w : World} {e : Ending} {w' : World} (h : SdOut P (.agg #[.slice a1 n1 c1, .int .i64 F, .slice a2 n2 c2, .int .i64 s]) o w e w') :
    ∃ b1 m1 j1 f b2 m2 j2 s9, e = .returned (.tuple #[.agg #[.slice b1 m1 j1, .int .i64 f, .slice b2 m2 j2, .int .i64 s9], .bool o.isSome]) ∧ Kp P w w' ∧ (∀ u : Vol, o = some u → m1 = u.1.length ∧ f = u.2.1 ∧ m2 = u.2.2.1.length ∧ s9 = u.2.2.2 ∧ Ss w'.heap.size b1 u.1 w' ∧ Rs w'.heap.size b2 u.2.2.1 w') := by
  cases o with
  | none => obtain ⟨h1, h2⟩ := h; exact ⟨_, _, _, _, _, _, _, _, h1, h2, fun u hu => by cases hu⟩
  | some v =>
    obtain ⟨aB, kB, aL, kL, h1, h2, h3, h4⟩ := h
    exact ⟨_, _, _, _, _, _, _, _, h1, h4, fun u hu => by cases hu; exact ⟨rfl, rfl, rfl, rfl, h2, h3⟩⟩
/-- nothing that was there at wo has turned -/
def BW (wo W : World) : Prop := Below wo.heap.size wo W
theorem BW.on {wo W W' : World} (h : BW wo W) (g : Below W.heap.size W W') : BW wo W' := Below.trans h (g.mono (Below.size h))
theorem BW.size {wo W : World} (h : BW wo W) : wo.heap.size ≤ W.heap.size := Below.size h
theorem BW.kp {P : Nat → Prop} {wo W W' : World} (h : BW wo W) (g : Kp P W W') (hP : ∀ q, P q → wo.heap.size ≤ q) : BW wo W' := Below.trans h (g.below _ hP (Below.size h))
set_option maxHeartbeats 2500000 in
theorem splay_yes (a : Option Addr) (cap : Nat) (l : List Op) (w : World) (hn : l.length ≤ 60) (hZ : Os w.heap.size a l w) :
    Calls Try.prog 7 #[.slice a l.length cap] w fun e w' => POut (runV l (newV, [])).1 (runV l (newV, [])).2 true w e w' := by
  have hd60 : decide ((60 : Int) < (l.length : Int)) = false := decide_eq_false (by omega)
  have g0 := boxB w (.cells #[.slice none 0 0, .int .i64 0, .slice none 0 0, .int .i64 0] 28)
  have k0 := heap_last w (.cells #[.slice none 0 0, .int .i64 0, .slice none 0 0, .int .i64 0] 28)
  have z0 := heap_size w (.cells #[.slice none 0 0, .int .i64 0, .slice none 0 0, .int .i64 0] 28)
  generalize hW0 : w.alloc (.cells #[.slice none 0 0, .int .i64 0, .slice none 0 0, .int .i64 0] 28) = w0 at *
  have HG0 := hid g0
  have HK0 := hid k0
  have HZ0 := hid z0
  have HZ := hid hZ
  clear g0 k0 z0 hZ
  go_enter Try.func7, Try.ntmps7
  go_wp2_with fail
  refine (snew_any _).mono ?_
  rintro e w1 ⟨b, c, rfl, o1, g1⟩
  have gX := boxB w1 (.cells #[.slice b 16 c, .int .i64 0, .slice none 0 0, .int .i64 0] 28)
  have kX := heap_last w1 (.cells #[.slice b 16 c, .int .i64 0, .slice none 0 0, .int .i64 0] 28)
  have HP : Hid (MP w w1.heap.size newV b c none 0 (.slice none 0 0) [] (w1.alloc (.cells #[.slice b 16 c, .int .i64 0, .slice none 0 0, .int .i64 0] 28))) := by
    have hz0 := HZ0.out
    have hs1 := g1.size
    have g2 := HG0.out.trans (g1.mono HG0.out.size)
    refine ⟨g2.trans (gX.mono g2.size), (gX.block _ (by omega)).trans ((g1.block _ (by omega)).trans HK0.out), kX, ?_, ?_, TB.nil _ _, by omega⟩
    · exact ((o1.below gX).read).1
    · exact ((o1.below gX).read).2
  clear g1 o1 gX kX HG0 HK0
  go_wp2_with fail
  generalize w1.alloc (.cells #[.slice b 16 c, .int .i64 0, .slice none 0 0, .int .i64 0] 28) = wm at *
  generalize hXX : w1.heap.size = X at *
  clear hXX
  go_loopw [6, 18] (fun dd i wr => ∃ (k : Nat) (aB : Option Addr) (kB : Nat) (aL : Option Addr) (kL : Nat) (dv : Value), k ≤ l.length ∧ i = .int .i64 k ∧ dd = dv ∧ MP w X (runV (l.take k) (newV, [])).1 aB kB aL kL dv (runV (l.take k) (newV, [])).2 wr) (fun _ i _ => l.length - (intOf i).toNat)
  case atStart => exact ⟨0, _, _, _, _, _, Nat.zero_le _, rfl, rfl, HP.out⟩
  case round =>
    clear HP
    obtain ⟨k, aB, kB, aL, kL, dv, hk, rfl, hdv0, hP⟩ := hrel
    obtain rfl := hdv0.symm
    by_cases hlt : k < l.length
    · obtain ⟨b', off, rfl, hb', hc⟩ := HZ.out.cell (by omega)
      obtain ⟨c0, c1, c2, c3, c4⟩ := hc k hlt
      have x0 := (hP.be.cell (p := ⟨b', off + k * 5, none⟩) hb').trans c0
      have x1 := (hP.be.cell (p := ⟨b', off + k * 5 + 1, none⟩) hb').trans c1
      have x2 := (hP.be.cell (p := ⟨b', off + k * 5 + 2, none⟩) hb').trans c2
      have x3 := (hP.be.cell (p := ⟨b', off + k * 5 + 3, none⟩) hb').trans c3
      have x4 := (hP.be.cell (p := ⟨b', off + k * 5 + 4, none⟩) hb').trans c4
      have HSN : Hid (runV (l.take (k + 1)) (newV, []) = (nextV (runV (l.take k) (newV, [])).1 l[k], (runV (l.take k) (newV, [])).2 ++ [didV (runV (l.take k) (newV, [])).1 l[k]])) := by
        show _ = _
        rw [List.take_succ_eq_append_getElem hlt, runV_snoc]
      have HDL : Hid ((runV (l.take k) (newV, [])).2.length + 1 ≤ 10000) := by show _ ≤ _; rw [runV_len, List.length_take]; simp; omega
      have HGD := hid (runV_good (l.take k) (newV, []) GoodVol.new)
      clear hc c0 c1 c2 c3 c4
      generalize (runV (l.take k) (newV, [])).1 = v at *
      generalize (runV (l.take k) (newV, [])).2 = d at *
      generalize hop : l[k] = o at *
      obtain ⟨o0, o1, o2, o3, o4⟩ := o
      simp only at x0 x1 x2 x3 x4
      have h16 := goodBs_len HGD.out.bs
      have h40 := HGD.out.len
      have gO := boxB wr (.cells #[.int .i64 o0, .int .i64 o1, .int .i64 o2, .string o3, .int .i64 o4] 35)
      have kO := heap_last wr (.cells #[.int .i64 o0, .int .i64 o1, .int .i64 o2, .string o3, .int .i64 o4] 35)
      generalize hWO : wr.alloc (.cells #[.int .i64 o0, .int .i64 o1, .int .i64 o2, .string o3, .int .i64 o4] 35) = wo at *
      have hPo := hP.on gO
      have HPo := hid hPo
      have hOl := kboxV kO
      have HOW : Hid (∀ v', BW wo v' → Calls Try.prog 32 #[.agg #[.slice aB v.1.length kB, .int .i64 v.2.1, .slice aL v.2.2.1.length kL, .int .i64 v.2.2.2]] v' fun e w' => CpOut v.1 v.2.1 v.2.2.1 v.2.2.2 v' e w') := fun v' g => l6Own_any aB aL kB kL v.1 v.2.1 v.2.2.1 v.2.2.2 v' (by omega) (by omega) ((hPo.ss.below g).mono (Below.size g)) ((hPo.rs.below g).mono (Below.size g))
      have HDO : Hid (∀ v' (lo mid : Nat) (a1 : Option Addr) (c1 : Nat) (a2 : Option Addr) (c2 : Nat), OV lo mid a1 c1 v.1 a2 c2 v.2.2.1 v' → Calls Try.prog 31 #[.agg #[.slice a1 v.1.length c1, .int .i64 v.2.1, .slice a2 v.2.2.1.length c2, .int .i64 v.2.2.2], .agg #[.int .i64 o0, .int .i64 o1, .int .i64 o2, .string o3, .int .i64 o4]] v' fun e w' => ∃ b1 m1 j1 f b2 m2 j2 s9, e = .returned (.tuple #[.agg #[.slice b1 m1 j1, .int .i64 f, .slice b2 m2 j2, .int .i64 s9], .bool (didV v ⟨o0, o1, o2, o3, o4⟩)]) ∧ Kp (volP a1 c1 v.1.length a2 c2 v.2.2.1.length) v' w' ∧ (∀ u : Vol, doV v.1 v.2.1 v.2.2.1 v.2.2.2 ⟨o0, o1, o2, o3, o4⟩ = some u → m1 = u.1.length ∧ f = u.2.1 ∧ m2 = u.2.2.1.length ∧ s9 = u.2.2.2 ∧ Ss w'.heap.size b1 u.1 w' ∧ Rs w'.heap.size b2 u.2.2.1 w')) := fun v' lo mid a1 c1 a2 c2 h => (l6Do_any lo mid a1 a2 c1 c2 v.1 v.2.1 v.2.2.1 v.2.2.2 o0 o1 o2 o4 o3 v' h HGD.out).mono fun e w' h => h.uni
      have HS : Hid (∀ v', BW wo v' → (v'.cell? ⟨X, 0, none⟩ = some (.slice aB v.1.length kB) ∧ v'.cell? ⟨X, 1, none⟩ = some (.int .i64 v.2.1) ∧ v'.cell? ⟨X, 2, none⟩ = some (.slice aL v.2.2.1.length kL) ∧ v'.cell? ⟨X, 3, none⟩ = some (.int .i64 v.2.2.2)) ∧ v'.cell? ⟨wr.heap.size, 0, none⟩ = some (.int .i64 o0) ∧ v'.cell? ⟨wr.heap.size, 1, none⟩ = some (.int .i64 o1) ∧ v'.cell? ⟨wr.heap.size, 2, none⟩ = some (.int .i64 o2) ∧ v'.cell? ⟨wr.heap.size, 3, none⟩ = some (.string o3) ∧ v'.cell? ⟨wr.heap.size, 4, none⟩ = some (.int .i64 o4)) := fun v' g0 => by
        have g : Below wo.heap.size wo v' := g0
        have e1 := (g.block _ (kboxV hPo.bv)).trans hPo.bv
        have e2 := (g.block _ hOl).trans kO
        exact ⟨⟨box_cell e1 0, box_cell e1 1, box_cell e1 2, box_cell e1 3⟩, box_cell e2 0, box_cell e2 1, box_cell e2 2, box_cell e2 3, box_cell e2 4⟩
      generalize hgo : (⟨o0, o1, o2, o3, o4⟩ : Op) = oo at *
      have HGO := hid hgo
      obtain ⟨dd, hdd⟩ : ∃ dd, didV v oo = dd := ⟨_, rfl⟩
      rw [hdd] at HDO HSN
      have HDD := hid hdd
      clear hdd
      clear hP hPo gO kO hop hgo h16 h40
      go_upto_region 8 with fail
      go_cut [9, 10] (fun s9' s10 wc => ∃ (Q : Nat) (b1 : Option Addr) (m1 j1 : Nat) (f : Int) (b2 : Option Addr) (m2 j2 : Nat) (s9 : Int), s9' = .pointer (some ⟨Q, 0, none⟩) ∧ s10 = .bool dd ∧ wc.heap[Q]? = some (.cells #[.slice b1 m1 j1, .int .i64 f, .slice b2 m2 j2, .int .i64 s9] 28) ∧ BW wo wc ∧ (∀ u : Vol, doV v.1 v.2.1 v.2.2.1 v.2.2.2 oo = some u → m1 = u.1.length ∧ f = u.2.1 ∧ m2 = u.2.2.1.length ∧ s9 = u.2.2.2 ∧ Ss wc.heap.size b1 u.1 wc ∧ Rs wc.heap.size b2 u.2.2.1 wc))
      case first =>
        as_aux_lemma =>
          have A0 : BW wo wo.drew := (Below.refl _ _).drew
          have A0a : BW wo (wo.alloc (.cells #[.slice none 0 0, .int .i64 0, .slice none 0 0, .int .i64 0] 28)).drew := (boxB wo _).drew
          have hz1 : (wo.alloc (.cells #[.slice none 0 0, .int .i64 0, .slice none 0 0, .int .i64 0] 28)).drew.heap.size = wo.heap.size + 1 := heap_size wo _
          obtain ⟨⟨y0, y1, y2, y3⟩, p0, p1, p2, p3, p4⟩ := HS.out _ A0
          obtain ⟨⟨ya0, ya1, ya2, ya3⟩, pa0, pa1, pa2, pa3, pa4⟩ := HS.out _ A0a
          go_region_held (fun v' => (v'.cell? ⟨X, 0, none⟩ = some (.slice aB v.1.length kB) ∧ v'.cell? ⟨X, 1, none⟩ = some (.int .i64 v.2.1) ∧ v'.cell? ⟨X, 2, none⟩ = some (.slice aL v.2.2.1.length kL) ∧ v'.cell? ⟨X, 3, none⟩ = some (.int .i64 v.2.2.2)) ∧ v'.cell? ⟨wr.heap.size, 0, none⟩ = some (.int .i64 o0) ∧ v'.cell? ⟨wr.heap.size, 1, none⟩ = some (.int .i64 o1) ∧ v'.cell? ⟨wr.heap.size, 2, none⟩ = some (.int .i64 o2) ∧ v'.cell? ⟨wr.heap.size, 3, none⟩ = some (.string o3) ∧ v'.cell? ⟨wr.heap.size, 4, none⟩ = some (.int .i64 o4)) (first | exact HS.out _ (by with_reducible assumption)) (first | (go_at_call 32; refine (HOW.out _ (by first | with_reducible exact A0 | with_reducible exact A0a)).mono ?_; rintro e w3 ⟨mid, a1, c1, a2, c2, rfl, hov, b3⟩; have hs3 := b3.size; have hvp := hov.volP; have hlv : ∀ q, volP a1 c1 v.1.length a2 c2 v.2.2.1.length q → wo.heap.size ≤ q := fun q hq => Nat.le_trans (by first | with_reducible exact A0.size | with_reducible exact A0a.size) (hvp q hq).1; have A3 : BW wo w3 := (by first | with_reducible exact A0.on b3 | with_reducible exact A0a.on b3); (try (have q3 : w3.heap[wo.heap.size]? = some (.cells #[.slice none 0 0, .int .i64 0, .slice none 0 0, .int .i64 0] 28) := (b3.block _ (show wo.heap.size < (wo.alloc (.cells #[.slice none 0 0, .int .i64 0, .slice none 0 0, .int .i64 0] 28)).heap.size by simp)).trans (heap_last wo _))); have A3a : BW wo (w3.alloc (.cells #[.slice none 0 0, .int .i64 0, .slice none 0 0, .int .i64 0] 28)) := A3.on (boxB w3 _)) | (go_at_call 31; refine (HDO.out _ _ _ _ _ _ _ (by first | with_reducible exact hov | with_reducible exact hov.below (boxB _ _))).mono ?_; rintro e w4 ⟨b1, m1, j1, f, b2, m2, j2, s9, rfl, k4, hu4⟩; have hs4 := k4.size; have A4 : BW wo w4 := (by first | with_reducible exact A3.kp k4 hlv | with_reducible exact A3a.kp k4 hlv); have A4a : BW wo (w4.alloc (.cells #[.slice none 0 0, .int .i64 0, .slice none 0 0, .int .i64 0] 28)) := A4.on (boxB w4 _); have A4b : BW wo (w4.alloc (.cells #[.slice b1 m1 j1, .int .i64 f, .slice b2 m2 j2, .int .i64 s9] 28)) := A4.on (boxB w4 _); have A4c : BW wo ((((w4.setCell ⟨wo.heap.size, 0, none⟩ (.slice b1 m1 j1)).setCell ⟨wo.heap.size, 1, none⟩ (.int .i64 f)).setCell ⟨wo.heap.size, 2, none⟩ (.slice b2 m2 j2)).setCell ⟨wo.heap.size, 3, none⟩ (.int .i64 s9)) := setB (setB (setB (setB A4 wo.heap.size 0 (Nat.le_refl _) (.slice b1 m1 j1)) wo.heap.size 1 (Nat.le_refl _) (.int .i64 f)) wo.heap.size 2 (Nat.le_refl _) (.slice b2 m2 j2)) wo.heap.size 3 (Nat.le_refl _) (.int .i64 s9); have A4d : BW wo ((((w4.setCell ⟨w3.heap.size, 0, none⟩ (.slice b1 m1 j1)).setCell ⟨w3.heap.size, 1, none⟩ (.int .i64 f)).setCell ⟨w3.heap.size, 2, none⟩ (.slice b2 m2 j2)).setCell ⟨w3.heap.size, 3, none⟩ (.int .i64 s9)) := setB (setB (setB (setB A4 w3.heap.size 0 A3.size (.slice b1 m1 j1)) w3.heap.size 1 A3.size (.int .i64 f)) w3.heap.size 2 A3.size (.slice b2 m2 j2)) w3.heap.size 3 A3.size (.int .i64 s9); (try (have q4 : w4.heap[w3.heap.size]? = some (.cells #[.slice none 0 0, .int .i64 0, .slice none 0 0, .int .i64 0] 28) := (k4.block _ (by simp) (fun g => by have := (hvp _ g).2; omega)).trans (heap_last w3 _); obtain ⟨⟨r0, r1, r2, r3⟩, g0, g1, g2, g3⟩ := box4 q4)); (try (have q5 : w4.heap[wo.heap.size]? = some (.cells #[.slice none 0 0, .int .i64 0, .slice none 0 0, .int .i64 0] 28) := (k4.block _ (by omega) (fun g => by have h1 := (hvp _ g).1; omega)).trans q3; obtain ⟨⟨t0, t1, t2, t3⟩, u0, u1, u2, u3⟩ := box4 q5))))
          all_goals
            go_wp2_with fail
            go_meet
            case rel =>
              have ga := boxB w4 (.cells #[.slice b1 m1 j1, .int .i64 f, .slice b2 m2 j2, .int .i64 s9] 28)
              have hl4 := heap_last w4 (.cells #[.slice b1 m1 j1, .int .i64 f, .slice b2 m2 j2, .int .i64 s9] 28)
              have n1 := fun q => fill4 (w := w4) (Q := w3.heap.size) (t := 28) (a0 := .slice none 0 0) (a1 := .int .i64 0) (a2 := .slice none 0 0) (a3 := .int .i64 0) q (.slice b1 m1 j1) (.int .i64 f) (.slice b2 m2 j2) (.int .i64 s9)
              have n2 := fun q => fill4 (w := w4) (Q := wo.heap.size) (t := 28) (a0 := .slice none 0 0) (a1 := .int .i64 0) (a2 := .slice none 0 0) (a3 := .int .i64 0) q (.slice b1 m1 j1) (.int .i64 f) (.slice b2 m2 j2) (.int .i64 s9)
              refine ⟨_, b1, m1, j1, f, b2, m2, j2, s9, rfl, rfl, ?_, ?_, ?_⟩
              · first | with_reducible exact hl4 | with_reducible exact n1 q4 | with_reducible exact n2 q5
              · first | with_reducible exact A4b | with_reducible exact A4d | with_reducible exact A4c
              · intro u hu
                obtain ⟨e1, e2, e3, e4, hS4, hR4⟩ := hu4 u hu
                refine ⟨e1, e2, e3, e4, ?_, ?_⟩
                · first | with_reducible exact (hS4.below ga).mono ga.size | with_reducible exact ss_fill (Q := w3.heap.size) hS4 q4 (.slice b1 m1 j1) (.int .i64 f) (.slice b2 m2 j2) (.int .i64 s9) | with_reducible exact ss_fill (Q := wo.heap.size) hS4 q5 (.slice b1 m1 j1) (.int .i64 f) (.slice b2 m2 j2) (.int .i64 s9)
                · first | with_reducible exact (hR4.below ga).mono ga.size | with_reducible exact rs_fill (Q := w3.heap.size) hR4 q4 (.slice b1 m1 j1) (.int .i64 f) (.slice b2 m2 j2) (.int .i64 s9) | with_reducible exact rs_fill (Q := wo.heap.size) hR4 q5 (.slice b1 m1 j1) (.int .i64 f) (.slice b2 m2 j2) (.int .i64 s9)
      case rest =>
        as_aux_lemma =>
          obtain ⟨Q, b1, m1, j1, f, b2, m2, j2, s9, rfl, rfl, hQ, hB, hU⟩ := hcut
          have hM := HPo.out.on (show Below wo.heap.size wo wc from hB)
          cases hdv : doV v.1 v.2.1 v.2.2.1 v.2.2.2 oo with
          | none =>
            have hdd : dd = false := by rw [← HDD.out]; unfold didV; rw [hdv]; rfl
            subst hdd
            have HE : Hid (runV (l.take (k + 1)) (newV, []) = (v, d ++ [false])) := by
              show _ = _
              rw [HSN.out]
              unfold nextV
              rw [hdv]
              rfl
            obtain ⟨v', w', r1, hM'⟩ := hM.push false HDL.out
            have HM' := hid hM'
            clear hM hM' hU hdv HSN HDD HDO HOW HS hQ hB HPo
            go_wp2_with (at_builtin; refine wpList_append_run rfl (.tmp 31) (.tmp 33) 29 rfl _ _ rfl rfl _ _ r1 ?_)
            go_roundw
            case rel => exact ⟨k + 1, aB, kB, aL, kL, _, by omega, by go_num, rfl, by rw [HE.out]; exact HM'.out⟩
            case measure => simp [intOf]; omega
          | some u =>
            have hdd : dd = true := by rw [← HDD.out]; unfold didV; rw [hdv]; rfl
            subst hdd
            have HE : Hid (runV (l.take (k + 1)) (newV, []) = (u, d ++ [true])) := by
              show _ = _
              rw [HSN.out]
              unfold nextV
              rw [hdv]
              rfl
            obtain ⟨rfl, rfl, rfl, rfl, hS, hR⟩ := hU u hdv
            have hM2 := hM.put u b1 j1 b2 j2 hS hR
            obtain ⟨v', w', r1, hM'⟩ := hM2.push true HDL.out
            have hzf : ((((wc.setCell ⟨X, 0, none⟩ (.slice b1 u.1.length j1)).setCell ⟨X, 1, none⟩ (.int .i64 u.2.1)).setCell ⟨X, 2, none⟩ (.slice b2 u.2.2.1.length j2)).setCell ⟨X, 3, none⟩ (.int .i64 u.2.2.2)).heap.size = wc.heap.size := by simp [World.setCell]
            rw [hzf] at r1
            have HM' := hid hM'
            obtain ⟨⟨q0, q1, q2, q3⟩, -⟩ := box4 hQ
            obtain ⟨⟨e0, e1, e2, e3⟩, f0, f1, f2, f3⟩ := box4 hM.bv
            clear hM hM2 hM' hU hdv HSN HDD HDO HOW HS hQ hB HPo hS hR hzf
            go_wp2_with (at_builtin; refine wpList_append_run rfl (.tmp 31) (.tmp 33) 29 rfl _ _ rfl rfl _ _ r1 ?_)
            go_roundw
            case rel => exact ⟨k + 1, b1, j1, b2, j2, _, by omega, by go_num, rfl, by rw [HE.out]; exact HM'.out⟩
            case measure => simp [intOf]; omega
    · obtain rfl : k = l.length := by omega
      rw [List.take_length] at hP
      have HGD := hid (runV_good l (newV, []) GoodVol.new)
      obtain ⟨v, hv⟩ : ∃ v, (runV l (newV, [])).1 = v := ⟨_, rfl⟩
      obtain ⟨d, hdd⟩ : ∃ d, (runV l (newV, [])).2 = d := ⟨_, rfl⟩
      have HGD : Hid (GoodVol v) := by show GoodVol v; rw [← hv]; exact HGD.out
      rw [hv, hdd] at hP
      have HV := hid hv
      have HDD := hid hdd
      clear hv hdd
      have h16 := goodBs_len HGD.out.bs
      have h40 := HGD.out.len
      have HOW := hid (l6Own_any aB aL kB kL v.1 v.2.1 v.2.2.1 v.2.2.2 wr (by omega) (by omega) hP.ss hP.rs)
      obtain ⟨da, dc, rfl, hdo⟩ := hP.tb.own
      obtain ⟨⟨v0, v1, v2, v3⟩, -⟩ := box4 hP.bv
      have HP := hid hP
      have HDO := hid hdo
      clear hP hdo h16 h40
      go_wp2_with fail
      refine HOW.out.mono ?_
      rintro e w6 ⟨mid, b3, j3, b4, j4, rfl, hov, b6⟩
      have hP6 := HP.out.on b6
      obtain ⟨⟨z0, z1, z2, z3⟩, f0, f1, f2, f3⟩ := box4 hP6.bz
      have hbn := box_set (box_set (box_set (box_set hP6.bz 0 (.slice b3 v.1.length j3)) 1 (.int .i64 v.2.1)) 2 (.slice b4 v.2.2.1.length j4)) 3 (.int .i64 v.2.2.2)
      have e0 := box_cell hbn 0
      have e1 := box_cell hbn 1
      have e2 := box_cell hbn 2
      have e3 := box_cell hbn 3
      simp only [List.setIfInBounds_toArray, List.set_cons_zero, List.set_cons_succ, List.getElem?_toArray, List.getElem?_cons_zero, List.getElem?_cons_succ] at e0 e1 e2 e3
      have HOUT : Hid (POut v d true w (.returned (.tuple #[.agg #[.slice b3 v.1.length j3, .int .i64 v.2.1, .slice b4 v.2.2.1.length j4, .int .i64 v.2.2.2], .slice da d.length dc, .bool true])) ((((w6.setCell ⟨w.heap.size, 0, none⟩ (.slice b3 v.1.length j3)).setCell ⟨w.heap.size, 1, none⟩ (.int .i64 v.2.1)).setCell ⟨w.heap.size, 2, none⟩ (.slice b4 v.2.2.1.length j4)).setCell ⟨w.heap.size, 3, none⟩ (.int .i64 v.2.2.2))) := by
        have hx := HP.out.wx
        have hX := kboxV HP.out.bv
        have hs6 := b6.size
        have hsz : ((((w6.setCell ⟨w.heap.size, 0, none⟩ (.slice b3 v.1.length j3)).setCell ⟨w.heap.size, 1, none⟩ (.int .i64 v.2.1)).setCell ⟨w.heap.size, 2, none⟩ (.slice b4 v.2.2.1.length j4)).setCell ⟨w.heap.size, 3, none⟩ (.int .i64 v.2.2.2)).heap.size = w6.heap.size := by simp [World.setCell]
        have hk : ∀ q, q ≠ w.heap.size → ((((w6.setCell ⟨w.heap.size, 0, none⟩ (.slice b3 v.1.length j3)).setCell ⟨w.heap.size, 1, none⟩ (.int .i64 v.2.1)).setCell ⟨w.heap.size, 2, none⟩ (.slice b4 v.2.2.1.length j4)).setCell ⟨w.heap.size, 3, none⟩ (.int .i64 v.2.2.2)).heap[q]? = w6.heap[q]? := fun q h1 => by
          rw [keepB _ _ _ _ _ h1, keepB _ _ _ _ _ h1, keepB _ _ _ _ _ h1, keepB _ _ _ _ _ h1]
        have hdo : OwnB (X + 1) wr.heap.size da d ((((w6.setCell ⟨w.heap.size, 0, none⟩ (.slice b3 v.1.length j3)).setCell ⟨w.heap.size, 1, none⟩ (.int .i64 v.2.1)).setCell ⟨w.heap.size, 2, none⟩ (.slice b4 v.2.2.1.length j4)).setCell ⟨w.heap.size, 3, none⟩ (.int .i64 v.2.2.2)) := by
          rcases HDO.out with e | ⟨R, r1, r2, e, r⟩
          · exact Or.inl e
          · exact Or.inr ⟨R, r1, r2, e, (r.below b6).same (by omega) (hk R (by omega))⟩
        refine ⟨b3, j3, b4, j4, da, dc, rw_capV hov.log, rfl, wr.heap.size, w6.heap.size, X + 1, wr.heap.size, by omega, by omega, by omega, by omega, by omega, by omega, by omega, hov.own.same (by omega) (fun q h1 h2 => hk q (by omega)), hdo, setB (setB (setB (setB hP6.be _ _ (Nat.le_refl _) _) _ _ (Nat.le_refl _) _) _ _ (Nat.le_refl _) _) _ _ (Nat.le_refl _) _⟩
      clear hbn hP6 hov b6 HOW HP HDO
      go_wp2_with fail
      generalize ((((w6.setCell ⟨w.heap.size, 0, none⟩ (.slice b3 v.1.length j3)).setCell ⟨w.heap.size, 1, none⟩ (.int .i64 v.2.1)).setCell ⟨w.heap.size, 2, none⟩ (.slice b4 v.2.2.1.length j4)).setCell ⟨w.heap.size, 3, none⟩ (.int .i64 v.2.2.2)) = XX at *
      refine bodyPost_ret (v := .tuple #[.agg #[.slice b3 v.1.length j3, .int .i64 v.2.1, .slice b4 v.2.2.1.length j4, .int .i64 v.2.2.2], .slice da d.length dc, .bool true]) (by simp [results, Try.results7, go_sem, e0, e1, e2, e3]) rfl ?_
      rw [HV.out, HDD.out]
      exact HOUT.out
end Go.Proofs.Ytlbhfgcpflhccaa
namespace Go.Proofs.Ytlbhfgcpflhccaa
set_option maxRecDepth 100000
open Go Go.ChangeShapes Go.WideShapes Go.ChangeAt Go.RowKit G00541
theorem box5 {w : World} {Q : Nat} {a0 a1 a2 a3 a4 : Value} {t : TypeId} (h : w.heap[Q]? = some (.cells #[a0, a1, a2, a3, a4] t)) : (w.cell? ⟨Q, 0, none⟩ = some a0 ∧ w.cell? ⟨Q, 1, none⟩ = some a1 ∧ w.cell? ⟨Q, 2, none⟩ = some a2 ∧ w.cell? ⟨Q, 3, none⟩ = some a3 ∧ w.cell? ⟨Q, 4, none⟩ = some a4) ∧ w.frozen? ⟨Q, 0, none⟩ = false ∧ w.frozen? ⟨Q, 1, none⟩ = false ∧ w.frozen? ⟨Q, 2, none⟩ = false ∧ w.frozen? ⟨Q, 3, none⟩ = false ∧ w.frozen? ⟨Q, 4, none⟩ = false :=
  ⟨⟨box_cell h 0, box_cell h 1, box_cell h 2, box_cell h 3, box_cell h 4⟩, box_free h 0, box_free h 1, box_free h 2, box_free h 3, box_free h 4⟩
/-- while an op is drawn: the cursor at B; the answer's place, all zero -/
structure Do5 (w : World) (B N len cap : Nat) (a : Option Addr) (v : World) : Prop where
  cur : Cur B N (.slice a len cap) v
  code : Code B len cap a v
  bx : v.heap[w.heap.size]? = some (.cells #[.int .i64 0, .int .i64 0, .int .i64 0, .string ⟨#[]⟩, .int .i64 0] 35)
  but : But B w v
  bB : B < w.heap.size
theorem Do5.step {w : World} {B N N' len cap : Nat} {a : Option Addr} {v v' : World} (h : Do5 w B N len cap a v) (hC : Cur B N' (.slice a len cap) v') (g : But B v v') : Do5 w B N' len cap a v' :=
  ⟨hC, h.code.but g (Nat.le_refl _) (Nat.le_of_lt h.cur.lt), (g.block _ (kboxV h.bx) (by have := h.bB; omega)).trans h.bx, h.but.trans g, h.bB⟩
theorem Do5.done {w : World} {B N N' len cap : Nat} {a : Option Addr} {v : World} (h : Do5 w B N len cap a v) (hN : N ≤ N') (c0 c1 c2 c3 c4 : Value) : Cur B N' (.slice a len cap) (((((v.setCell ⟨w.heap.size, 0, none⟩ (c0)).setCell ⟨w.heap.size, 1, none⟩ (c1)).setCell ⟨w.heap.size, 2, none⟩ (c2)).setCell ⟨w.heap.size, 3, none⟩ (c3)).setCell ⟨w.heap.size, 4, none⟩ (c4)) ∧ But B w (((((v.setCell ⟨w.heap.size, 0, none⟩ (c0)).setCell ⟨w.heap.size, 1, none⟩ (c1)).setCell ⟨w.heap.size, 2, none⟩ (c2)).setCell ⟨w.heap.size, 3, none⟩ (c3)).setCell ⟨w.heap.size, 4, none⟩ (c4)) := by
  have hb := h.bB
  exact ⟨(((((h.cur.setOther (by omega) 0 c0).setOther (by omega) 1 c1).setOther (by omega) 2 c2).setOther (by omega) 3 c3).setOther (by omega) 4 c4).mono hN, ((((h.but.setNew (Nat.le_refl _) 0 c0).setNew (Nat.le_refl _) 1 c1).setNew (Nat.le_refl _) 2 c2).setNew (Nat.le_refl _) 3 c3).setNew (Nat.le_refl _) 4 c4⟩
set_option maxHeartbeats 4000000 in
theorem volOp_any (B N len cap : Nat) (a : Option Addr) (w : World) (hN : N ≤ 890000) (hC : Cur B N (.slice a len cap) w) (hK : Code B len cap a w) :
    Calls Try.prog 48 #[.pointer (some ⟨B, 0, none⟩)] w fun e w' => ∃ o : Op, e = .returned (oval o) ∧ o.data.size ≤ 9 ∧ Cur B (N + 60) (.slice a len cap) w' ∧ But B w w' := by
  have hlt := hC.lt
  have h0 : Do5 w B N len cap a (w.alloc (.cells #[.int .i64 0, .int .i64 0, .int .i64 0, .string ⟨#[]⟩, .int .i64 0] 35)) := ⟨hC.alloc _, hK.but ((But.refl B w).alloc _) (Nat.le_refl _) (Nat.le_of_lt hlt), heap_last _ _, (But.refl B w).alloc _, hlt⟩
  generalize hW0 : w.alloc (.cells #[.int .i64 0, .int .i64 0, .int .i64 0, .string ⟨#[]⟩, .int .i64 0] 35) = w0 at *
  have HD := hid h0
  clear hC hK h0
  go_enter Try.func48, Try.ntmps48
  go_wp2_with fail
  clear hW0
  refine (record_any B N len cap a _ (by omega) HD.out.cur HD.out.code).mono ?_
  rintro e w1 ⟨r, rfl, hr9, hC1, hB1⟩
  have h1 : Do5 w B (N + 40) len cap a w1 := HD.out.step hC1 hB1
  unfold rval
  have hz : (str r.data).size ≤ 9 := by rw [str_size]; exact hr9
  generalize r.kind = r0 at *
  generalize r.place = r1 at *
  generalize r.long = r2 at *
  generalize str r.data = r3 at *
  have kR := heap_last w1 (.cells #[.int .i64 r0, .int .i64 r1, .int .i64 r2, .string r3] 37)
  have h2 : Do5 w B (N + 40) len cap a (w1.alloc (.cells #[.int .i64 r0, .int .i64 r1, .int .i64 r2, .string r3] 37)) := h1.step (h1.cur.alloc _) ((But.refl B w1).alloc _)
  have hR1 : w1.heap.size ≠ B := by have := h1.cur.lt; omega
  have HD := hid h2
  have HKR := hid kR
  clear hC1 hB1 h1 h2 kR hr9
  go_wp2_with fail
  generalize w1.alloc (.cells #[.int .i64 r0, .int .i64 r1, .int .i64 r2, .string r3] 37) = w2 at *
  refine (pick_any 12 B _ len cap a _ (by omega) (by omega) (by omega) HD.out.cur HD.out.code).mono ?_
  rintro e w3 ⟨x, rfl, x0, x1, hC3, hB3⟩
  have hR3 : w3.heap[w1.heap.size]? = some (.cells #[.int .i64 r0, .int .i64 r1, .int .i64 r2, .string r3] 37) := (hB3.block _ (kboxV HKR.out) hR1).trans HKR.out
  have HD : Hid (Do5 w B (N + 42) len cap a w3) := HD.out.step hC3 hB3
  obtain ⟨⟨y0, y1, y2, y3⟩, -⟩ := box4 hR3
  clear hC3 hB3 HKR hR3
  rcases (show x = 0 ∨ x = 1 ∨ x = 2 ∨ x = 3 ∨ x = 4 ∨ x = 5 ∨ 6 ≤ x by omega) with rfl | rfl | rfl | rfl | rfl | rfl | h6
  · clear y0 y1 y2 y3
    obtain ⟨⟨z0, z1, z2, z3, z4⟩, f0, f1, f2, f3, f4⟩ := box5 HD.out.bx
    have hbn := box_set (box_set (box_set (box_set (box_set HD.out.bx 0 (.int .i64 4)) 1 (.int .i64 0)) 2 (.int .i64 0)) 3 (.string ⟨#[]⟩)) 4 (.int .i64 0)
    have e0 := box_cell hbn 0
    have e1 := box_cell hbn 1
    have e2 := box_cell hbn 2
    have e3 := box_cell hbn 3
    have e4 := box_cell hbn 4
    simp only [List.setIfInBounds_toArray, List.set_cons_zero, List.set_cons_succ, List.getElem?_toArray, List.getElem?_cons_zero, List.getElem?_cons_succ] at e0 e1 e2 e3 e4
    have HF : Hid (Cur B (N + 60) (.slice a len cap) (((((w3.setCell ⟨w.heap.size, 0, none⟩ (.int .i64 4)).setCell ⟨w.heap.size, 1, none⟩ (.int .i64 0)).setCell ⟨w.heap.size, 2, none⟩ (.int .i64 0)).setCell ⟨w.heap.size, 3, none⟩ (.string ⟨#[]⟩)).setCell ⟨w.heap.size, 4, none⟩ (.int .i64 0)) ∧ But B w (((((w3.setCell ⟨w.heap.size, 0, none⟩ (.int .i64 4)).setCell ⟨w.heap.size, 1, none⟩ (.int .i64 0)).setCell ⟨w.heap.size, 2, none⟩ (.int .i64 0)).setCell ⟨w.heap.size, 3, none⟩ (.string ⟨#[]⟩)).setCell ⟨w.heap.size, 4, none⟩ (.int .i64 0))) := HD.out.done (by omega) (.int .i64 4) (.int .i64 0) (.int .i64 0) (.string ⟨#[]⟩) (.int .i64 0)
    clear hbn
    go_wp2_with fail
    generalize (((((w3.setCell ⟨w.heap.size, 0, none⟩ (.int .i64 4)).setCell ⟨w.heap.size, 1, none⟩ (.int .i64 0)).setCell ⟨w.heap.size, 2, none⟩ (.int .i64 0)).setCell ⟨w.heap.size, 3, none⟩ (.string ⟨#[]⟩)).setCell ⟨w.heap.size, 4, none⟩ (.int .i64 0)) = XX at *
    refine bodyPost_ret (v := .agg #[.int .i64 4, .int .i64 0, .int .i64 0, .string ⟨#[]⟩, .int .i64 0]) (by simp [results, Try.results48, go_sem, e0, e1, e2, e3, e4]) rfl ⟨⟨4, 0, 0, ⟨#[]⟩, 0⟩, rfl, (show (0 : Nat) ≤ 9 by decide), HF.out.1, HF.out.2⟩
  · clear y0 y1 y2 y3
    obtain ⟨⟨z0, z1, z2, z3, z4⟩, f0, f1, f2, f3, f4⟩ := box5 HD.out.bx
    have hbn := box_set (box_set (box_set (box_set (box_set HD.out.bx 0 (.int .i64 4)) 1 (.int .i64 0)) 2 (.int .i64 0)) 3 (.string ⟨#[]⟩)) 4 (.int .i64 0)
    have e0 := box_cell hbn 0
    have e1 := box_cell hbn 1
    have e2 := box_cell hbn 2
    have e3 := box_cell hbn 3
    have e4 := box_cell hbn 4
    simp only [List.setIfInBounds_toArray, List.set_cons_zero, List.set_cons_succ, List.getElem?_toArray, List.getElem?_cons_zero, List.getElem?_cons_succ] at e0 e1 e2 e3 e4
    have HF : Hid (Cur B (N + 60) (.slice a len cap) (((((w3.setCell ⟨w.heap.size, 0, none⟩ (.int .i64 4)).setCell ⟨w.heap.size, 1, none⟩ (.int .i64 0)).setCell ⟨w.heap.size, 2, none⟩ (.int .i64 0)).setCell ⟨w.heap.size, 3, none⟩ (.string ⟨#[]⟩)).setCell ⟨w.heap.size, 4, none⟩ (.int .i64 0)) ∧ But B w (((((w3.setCell ⟨w.heap.size, 0, none⟩ (.int .i64 4)).setCell ⟨w.heap.size, 1, none⟩ (.int .i64 0)).setCell ⟨w.heap.size, 2, none⟩ (.int .i64 0)).setCell ⟨w.heap.size, 3, none⟩ (.string ⟨#[]⟩)).setCell ⟨w.heap.size, 4, none⟩ (.int .i64 0))) := HD.out.done (by omega) (.int .i64 4) (.int .i64 0) (.int .i64 0) (.string ⟨#[]⟩) (.int .i64 0)
    clear hbn
    go_wp2_with fail
    generalize (((((w3.setCell ⟨w.heap.size, 0, none⟩ (.int .i64 4)).setCell ⟨w.heap.size, 1, none⟩ (.int .i64 0)).setCell ⟨w.heap.size, 2, none⟩ (.int .i64 0)).setCell ⟨w.heap.size, 3, none⟩ (.string ⟨#[]⟩)).setCell ⟨w.heap.size, 4, none⟩ (.int .i64 0)) = XX at *
    refine bodyPost_ret (v := .agg #[.int .i64 4, .int .i64 0, .int .i64 0, .string ⟨#[]⟩, .int .i64 0]) (by simp [results, Try.results48, go_sem, e0, e1, e2, e3, e4]) rfl ⟨⟨4, 0, 0, ⟨#[]⟩, 0⟩, rfl, (show (0 : Nat) ≤ 9 by decide), HF.out.1, HF.out.2⟩
  · clear y0 y1 y2 y3
    go_wp2_with fail
    refine (pick_any 12 B _ len cap a _ (by omega) (by omega) (by omega) HD.out.cur HD.out.code).mono ?_
    rintro e w4 ⟨p, rfl, p0, p1, hCw4, hBw4⟩
    have HD : Hid (Do5 w B (N + 44) len cap a w4) := HD.out.step hCw4 hBw4
    clear hCw4 hBw4
    obtain ⟨⟨z0, z1, z2, z3, z4⟩, f0, f1, f2, f3, f4⟩ := box5 HD.out.bx
    have hbn := box_set (box_set (box_set (box_set (box_set HD.out.bx 0 (.int .i64 5)) 1 (.int .i64 0)) 2 (.int .i64 0)) 3 (.string ⟨#[]⟩)) 4 (.int .i64 p)
    have e0 := box_cell hbn 0
    have e1 := box_cell hbn 1
    have e2 := box_cell hbn 2
    have e3 := box_cell hbn 3
    have e4 := box_cell hbn 4
    simp only [List.setIfInBounds_toArray, List.set_cons_zero, List.set_cons_succ, List.getElem?_toArray, List.getElem?_cons_zero, List.getElem?_cons_succ] at e0 e1 e2 e3 e4
    have HF : Hid (Cur B (N + 60) (.slice a len cap) (((((w4.setCell ⟨w.heap.size, 0, none⟩ (.int .i64 5)).setCell ⟨w.heap.size, 1, none⟩ (.int .i64 0)).setCell ⟨w.heap.size, 2, none⟩ (.int .i64 0)).setCell ⟨w.heap.size, 3, none⟩ (.string ⟨#[]⟩)).setCell ⟨w.heap.size, 4, none⟩ (.int .i64 p)) ∧ But B w (((((w4.setCell ⟨w.heap.size, 0, none⟩ (.int .i64 5)).setCell ⟨w.heap.size, 1, none⟩ (.int .i64 0)).setCell ⟨w.heap.size, 2, none⟩ (.int .i64 0)).setCell ⟨w.heap.size, 3, none⟩ (.string ⟨#[]⟩)).setCell ⟨w.heap.size, 4, none⟩ (.int .i64 p))) := HD.out.done (by omega) (.int .i64 5) (.int .i64 0) (.int .i64 0) (.string ⟨#[]⟩) (.int .i64 p)
    clear hbn
    go_wp2_with fail
    generalize (((((w4.setCell ⟨w.heap.size, 0, none⟩ (.int .i64 5)).setCell ⟨w.heap.size, 1, none⟩ (.int .i64 0)).setCell ⟨w.heap.size, 2, none⟩ (.int .i64 0)).setCell ⟨w.heap.size, 3, none⟩ (.string ⟨#[]⟩)).setCell ⟨w.heap.size, 4, none⟩ (.int .i64 p)) = XX at *
    refine bodyPost_ret (v := .agg #[.int .i64 5, .int .i64 0, .int .i64 0, .string ⟨#[]⟩, .int .i64 p]) (by simp [results, Try.results48, go_sem, e0, e1, e2, e3, e4]) rfl ⟨⟨5, 0, 0, ⟨#[]⟩, p⟩, rfl, (show (0 : Nat) ≤ 9 by decide), HF.out.1, HF.out.2⟩
  · clear y0 y1 y2 y3
    obtain ⟨⟨z0, z1, z2, z3, z4⟩, f0, f1, f2, f3, f4⟩ := box5 HD.out.bx
    have hbn := box_set (box_set (box_set (box_set (box_set HD.out.bx 0 (.int .i64 6)) 1 (.int .i64 0)) 2 (.int .i64 0)) 3 (.string ⟨#[]⟩)) 4 (.int .i64 0)
    have e0 := box_cell hbn 0
    have e1 := box_cell hbn 1
    have e2 := box_cell hbn 2
    have e3 := box_cell hbn 3
    have e4 := box_cell hbn 4
    simp only [List.setIfInBounds_toArray, List.set_cons_zero, List.set_cons_succ, List.getElem?_toArray, List.getElem?_cons_zero, List.getElem?_cons_succ] at e0 e1 e2 e3 e4
    have HF : Hid (Cur B (N + 60) (.slice a len cap) (((((w3.setCell ⟨w.heap.size, 0, none⟩ (.int .i64 6)).setCell ⟨w.heap.size, 1, none⟩ (.int .i64 0)).setCell ⟨w.heap.size, 2, none⟩ (.int .i64 0)).setCell ⟨w.heap.size, 3, none⟩ (.string ⟨#[]⟩)).setCell ⟨w.heap.size, 4, none⟩ (.int .i64 0)) ∧ But B w (((((w3.setCell ⟨w.heap.size, 0, none⟩ (.int .i64 6)).setCell ⟨w.heap.size, 1, none⟩ (.int .i64 0)).setCell ⟨w.heap.size, 2, none⟩ (.int .i64 0)).setCell ⟨w.heap.size, 3, none⟩ (.string ⟨#[]⟩)).setCell ⟨w.heap.size, 4, none⟩ (.int .i64 0))) := HD.out.done (by omega) (.int .i64 6) (.int .i64 0) (.int .i64 0) (.string ⟨#[]⟩) (.int .i64 0)
    clear hbn
    go_wp2_with fail
    generalize (((((w3.setCell ⟨w.heap.size, 0, none⟩ (.int .i64 6)).setCell ⟨w.heap.size, 1, none⟩ (.int .i64 0)).setCell ⟨w.heap.size, 2, none⟩ (.int .i64 0)).setCell ⟨w.heap.size, 3, none⟩ (.string ⟨#[]⟩)).setCell ⟨w.heap.size, 4, none⟩ (.int .i64 0)) = XX at *
    refine bodyPost_ret (v := .agg #[.int .i64 6, .int .i64 0, .int .i64 0, .string ⟨#[]⟩, .int .i64 0]) (by simp [results, Try.results48, go_sem, e0, e1, e2, e3, e4]) rfl ⟨⟨6, 0, 0, ⟨#[]⟩, 0⟩, rfl, (show (0 : Nat) ≤ 9 by decide), HF.out.1, HF.out.2⟩
  · clear y0 y1 y2 y3
    go_wp2_with fail
    refine (pick_any 3 B _ len cap a _ (by omega) (by omega) (by omega) HD.out.cur HD.out.code).mono ?_
    rintro e w4 ⟨p, rfl, p0, p1, hCw4, hBw4⟩
    have HD : Hid (Do5 w B (N + 44) len cap a w4) := HD.out.step hCw4 hBw4
    clear hCw4 hBw4
    obtain ⟨⟨z0, z1, z2, z3, z4⟩, f0, f1, f2, f3, f4⟩ := box5 HD.out.bx
    have hbn := box_set (box_set (box_set (box_set (box_set HD.out.bx 0 (.int .i64 3)) 1 (.int .i64 (1 + p))) 2 (.int .i64 0)) 3 (.string ⟨#[]⟩)) 4 (.int .i64 0)
    have e0 := box_cell hbn 0
    have e1 := box_cell hbn 1
    have e2 := box_cell hbn 2
    have e3 := box_cell hbn 3
    have e4 := box_cell hbn 4
    simp only [List.setIfInBounds_toArray, List.set_cons_zero, List.set_cons_succ, List.getElem?_toArray, List.getElem?_cons_zero, List.getElem?_cons_succ] at e0 e1 e2 e3 e4
    have HF : Hid (Cur B (N + 60) (.slice a len cap) (((((w4.setCell ⟨w.heap.size, 0, none⟩ (.int .i64 3)).setCell ⟨w.heap.size, 1, none⟩ (.int .i64 (1 + p))).setCell ⟨w.heap.size, 2, none⟩ (.int .i64 0)).setCell ⟨w.heap.size, 3, none⟩ (.string ⟨#[]⟩)).setCell ⟨w.heap.size, 4, none⟩ (.int .i64 0)) ∧ But B w (((((w4.setCell ⟨w.heap.size, 0, none⟩ (.int .i64 3)).setCell ⟨w.heap.size, 1, none⟩ (.int .i64 (1 + p))).setCell ⟨w.heap.size, 2, none⟩ (.int .i64 0)).setCell ⟨w.heap.size, 3, none⟩ (.string ⟨#[]⟩)).setCell ⟨w.heap.size, 4, none⟩ (.int .i64 0))) := HD.out.done (by omega) (.int .i64 3) (.int .i64 (1 + p)) (.int .i64 0) (.string ⟨#[]⟩) (.int .i64 0)
    clear hbn
    go_wp2_with fail
    generalize (((((w4.setCell ⟨w.heap.size, 0, none⟩ (.int .i64 3)).setCell ⟨w.heap.size, 1, none⟩ (.int .i64 (1 + p))).setCell ⟨w.heap.size, 2, none⟩ (.int .i64 0)).setCell ⟨w.heap.size, 3, none⟩ (.string ⟨#[]⟩)).setCell ⟨w.heap.size, 4, none⟩ (.int .i64 0)) = XX at *
    refine bodyPost_ret (v := .agg #[.int .i64 3, .int .i64 (1 + p), .int .i64 0, .string ⟨#[]⟩, .int .i64 0]) (by simp [results, Try.results48, go_sem, e0, e1, e2, e3, e4]) rfl ⟨⟨3, 1 + p, 0, ⟨#[]⟩, 0⟩, rfl, (show (0 : Nat) ≤ 9 by decide), HF.out.1, HF.out.2⟩
  · clear y0 y1 y2 y3
    go_wp2_with fail
    refine (pick_any 8 B _ len cap a _ (by omega) (by omega) (by omega) HD.out.cur HD.out.code).mono ?_
    rintro e w4 ⟨p, rfl, p0, p1, hCw4, hBw4⟩
    have HD : Hid (Do5 w B (N + 44) len cap a w4) := HD.out.step hCw4 hBw4
    clear hCw4 hBw4
    go_wp2_with fail
    refine (pick_any 3 B _ len cap a _ (by omega) (by omega) (by omega) HD.out.cur HD.out.code).mono ?_
    rintro e w5 ⟨q, rfl, q0, q1, hCw5, hBw5⟩
    have HD : Hid (Do5 w B (N + 46) len cap a w5) := HD.out.step hCw5 hBw5
    clear hCw5 hBw5
    go_wp2_with fail
    refine (pick_any 3 B _ len cap a _ (by omega) (by omega) (by omega) HD.out.cur HD.out.code).mono ?_
    rintro e w6 ⟨s, rfl, s0, s1, hCw6, hBw6⟩
    have HD : Hid (Do5 w B (N + 48) len cap a w6) := HD.out.step hCw6 hBw6
    clear hCw6 hBw6
    obtain ⟨⟨z0, z1, z2, z3, z4⟩, f0, f1, f2, f3, f4⟩ := box5 HD.out.bx
    have hbn := box_set (box_set (box_set (box_set (box_set HD.out.bx 0 (.int .i64 p)) 1 (.int .i64 q)) 2 (.int .i64 0)) 3 (.string ⟨#[]⟩)) 4 (.int .i64 s)
    have e0 := box_cell hbn 0
    have e1 := box_cell hbn 1
    have e2 := box_cell hbn 2
    have e3 := box_cell hbn 3
    have e4 := box_cell hbn 4
    simp only [List.setIfInBounds_toArray, List.set_cons_zero, List.set_cons_succ, List.getElem?_toArray, List.getElem?_cons_zero, List.getElem?_cons_succ] at e0 e1 e2 e3 e4
    have HF : Hid (Cur B (N + 60) (.slice a len cap) (((((w6.setCell ⟨w.heap.size, 0, none⟩ (.int .i64 p)).setCell ⟨w.heap.size, 1, none⟩ (.int .i64 q)).setCell ⟨w.heap.size, 2, none⟩ (.int .i64 0)).setCell ⟨w.heap.size, 3, none⟩ (.string ⟨#[]⟩)).setCell ⟨w.heap.size, 4, none⟩ (.int .i64 s)) ∧ But B w (((((w6.setCell ⟨w.heap.size, 0, none⟩ (.int .i64 p)).setCell ⟨w.heap.size, 1, none⟩ (.int .i64 q)).setCell ⟨w.heap.size, 2, none⟩ (.int .i64 0)).setCell ⟨w.heap.size, 3, none⟩ (.string ⟨#[]⟩)).setCell ⟨w.heap.size, 4, none⟩ (.int .i64 s))) := HD.out.done (by omega) (.int .i64 p) (.int .i64 q) (.int .i64 0) (.string ⟨#[]⟩) (.int .i64 s)
    clear hbn
    go_wp2_with fail
    generalize (((((w6.setCell ⟨w.heap.size, 0, none⟩ (.int .i64 p)).setCell ⟨w.heap.size, 1, none⟩ (.int .i64 q)).setCell ⟨w.heap.size, 2, none⟩ (.int .i64 0)).setCell ⟨w.heap.size, 3, none⟩ (.string ⟨#[]⟩)).setCell ⟨w.heap.size, 4, none⟩ (.int .i64 s)) = XX at *
    refine bodyPost_ret (v := .agg #[.int .i64 p, .int .i64 q, .int .i64 0, .string ⟨#[]⟩, .int .i64 s]) (by simp [results, Try.results48, go_sem, e0, e1, e2, e3, e4]) rfl ⟨⟨p, q, 0, ⟨#[]⟩, s⟩, rfl, (show (0 : Nat) ≤ 9 by decide), HF.out.1, HF.out.2⟩
  · have b0 : (x == 0) = false := by simp; omega
    have b1 : (x == 1) = false := by simp; omega
    have b2 : (x == 2) = false := by simp; omega
    have b3 : (x == 3) = false := by simp; omega
    have b4 : (x == 4) = false := by simp; omega
    have b5 : (x == 5) = false := by simp; omega
    obtain ⟨⟨z0, z1, z2, z3, z4⟩, f0, f1, f2, f3, f4⟩ := box5 HD.out.bx
    have hbn := box_set (box_set (box_set (box_set (box_set HD.out.bx 0 (.int .i64 r0)) 1 (.int .i64 r1)) 2 (.int .i64 r2)) 3 (.string r3)) 4 (.int .i64 0)
    have e0 := box_cell hbn 0
    have e1 := box_cell hbn 1
    have e2 := box_cell hbn 2
    have e3 := box_cell hbn 3
    have e4 := box_cell hbn 4
    simp only [List.setIfInBounds_toArray, List.set_cons_zero, List.set_cons_succ, List.getElem?_toArray, List.getElem?_cons_zero, List.getElem?_cons_succ] at e0 e1 e2 e3 e4
    have HF : Hid (Cur B (N + 60) (.slice a len cap) (((((w3.setCell ⟨w.heap.size, 0, none⟩ (.int .i64 r0)).setCell ⟨w.heap.size, 1, none⟩ (.int .i64 r1)).setCell ⟨w.heap.size, 2, none⟩ (.int .i64 r2)).setCell ⟨w.heap.size, 3, none⟩ (.string r3)).setCell ⟨w.heap.size, 4, none⟩ (.int .i64 0)) ∧ But B w (((((w3.setCell ⟨w.heap.size, 0, none⟩ (.int .i64 r0)).setCell ⟨w.heap.size, 1, none⟩ (.int .i64 r1)).setCell ⟨w.heap.size, 2, none⟩ (.int .i64 r2)).setCell ⟨w.heap.size, 3, none⟩ (.string r3)).setCell ⟨w.heap.size, 4, none⟩ (.int .i64 0))) := HD.out.done (by omega) (.int .i64 r0) (.int .i64 r1) (.int .i64 r2) (.string r3) (.int .i64 0)
    clear hbn
    go_wp2_with fail
    generalize (((((w3.setCell ⟨w.heap.size, 0, none⟩ (.int .i64 r0)).setCell ⟨w.heap.size, 1, none⟩ (.int .i64 r1)).setCell ⟨w.heap.size, 2, none⟩ (.int .i64 r2)).setCell ⟨w.heap.size, 3, none⟩ (.string r3)).setCell ⟨w.heap.size, 4, none⟩ (.int .i64 0)) = XX at *
    refine bodyPost_ret (v := .agg #[.int .i64 r0, .int .i64 r1, .int .i64 r2, .string r3, .int .i64 0]) (by simp [results, Try.results48, go_sem, e0, e1, e2, e3, e4]) rfl ⟨⟨r0, r1, r2, r3, 0⟩, rfl, hz, HF.out.1, HF.out.2⟩
end Go.Proofs.Ytlbhfgcpflhccaa
namespace Go.Proofs.Ytlbhfgcpflhccaa
set_option maxRecDepth 100000
open Go Go.ChangeShapes Go.WideShapes Go.ChangeAt Go.RowKit G00541
def ovals (l : List Op) : List Value := (l.map ocells).flatten
theorem ovals_snoc (l : List Op) (o : Op) : ovals (l ++ [o]) = ovals l ++ ocells o := by simp [ovals]
/-- ops of one's own -/
def OG (lo : Nat) (v : Value) (l : List Op) (w : World) : Prop := w.ownsRow lo 35 5 v l.length (ovals l)
theorem OG.nil (lo : Nat) (w : World) : OG lo (.slice none 0 0) [] w := World.ownsRow_nil _ _ _ _
theorem OG.but {B lo : Nat} {w w' : World} {v : Value} {l : List Op} (h : OG lo v l w) (g : But B w w') (hB : B < lo) : OG lo v l w' :=
  rw_keep h (fun k hk => g.block k (World.ownsRow.lt h k hk).2 (fun e => by have := (World.ownsRow.lt h k hk).1; omega))
theorem OG.below {lo : Nat} {w w' : World} {v : Value} {l : List Op} (h : OG lo v l w) (g : Below w.heap.size w w') : OG lo v l w' := rw_below h g
theorem OG.push {lo : Nat} {v : Value} {l : List Op} {w : World} (h : OG lo v l w) (hlo : lo ≤ w.heap.size) (o : Op) (hm : l.length + 1 ≤ 10000) :
    ∃ v' w', (∀ ty, (Builtin.append_ #[23, 23] ty #[v, .slice (some ⟨w.heap.size, 0, none⟩) 1 1]).run Try.prog (w.alloc (.cells #[.int .i64 o.kind, .int .i64 o.place, .int .i64 o.long, .string o.data, .int .i64 o.keep] 35)) = .ok v' w') ∧ OG lo v' (l ++ [o]) w' ∧ Below lo w w' := by
  have gb := boxB w (.cells #[.int .i64 o.kind, .int .i64 o.place, .int .i64 o.long, .string o.data, .int .i64 o.keep] 35)
  have hbx := heap_last w (.cells #[.int .i64 o.kind, .int .i64 o.place, .int .i64 o.long, .string o.data, .int .i64 o.keep] 35)
  have ha := h.below gb
  generalize w.alloc (.cells #[.int .i64 o.kind, .int .i64 o.place, .int .i64 o.long, .string o.data, .int .i64 o.keep] 35) = wa at *
  obtain ⟨i, hi, hz0, hz1, hz2⟩ := info_parts infoOp
  have hnews : ∀ j u, (ocells o)[j]? = some u → wa.cell? ((⟨w.heap.size, 0, none⟩ : Addr).add j) = some u := fun j u hu => by
    have e : (⟨w.heap.size, 0, none⟩ : Addr).add j = ⟨w.heap.size, j, none⟩ := by unfold Addr.add; split <;> simp_all
    rw [e, box_cell hbx]
    show (ocells o).toArray[j]? = some u
    rw [List.getElem?_toArray]
    exact hu
  have one1 : ∀ u ∈ ocells o, u.oneCell' = true := fun u hu => by
    unfold ocells at hu
    simp only [List.mem_cons, List.not_mem_nil, or_false] at hu
    rcases hu with rfl | rfl | rfl | rfl | rfl <;> rfl
  have ha9 : wa.ownsRow lo 35 5 v l.length (ovals l) := ha
  obtain ⟨v', w', hr, h2, h3, _, h5⟩ := run_append_own_at wa lo 23 23 35 i _ 5 48 Try.underlying23 hi hz0 hz1 hz2 rfl (by decide) v l.length (ovals l) ha9 ⟨w.heap.size, 0, none⟩ 1 1 (ocells o) rfl hnews one1 (by unfold maxLen; omega) (by omega) (Nat.le_trans hlo gb.size)
  refine ⟨v', w', fun ty => hr, ?_, (gb.mono hlo).trans (below_of_grown h3 (Nat.le_trans hlo gb.size) (fun k hk => (World.ownsRow.lt ha9 k hk).1))⟩
  unfold OG
  rw [List.length_append, ovals_snoc]
  exact h2
theorem OG.own {lo : Nat} {v : Value} {l : List Op} {w : World} (h : OG lo v l w) : ∃ b c, v = .slice b l.length c ∧ OwnO lo w.heap.size b l w := by
  have h9 : w.ownsRow lo 35 5 v l.length (ovals l) := h
  by_cases h0 : 0 < l.length
  · have hv : v ≠ .slice none 0 0 := by
      intro e
      rcases h9.2 with ⟨_, h1⟩ | ⟨g, cap, cur, e2, _⟩
      · omega
      · rw [e] at e2; cases e2
    obtain ⟨R, cap, e, hR, hrow⟩ := GRow.ofOwns (rows := l.map ocells) (fun i hi => by rw [List.getElem_map]; rfl) h9 (by simp) hv
    exact ⟨_, cap, e, Or.inr ⟨R, hR, hrow.lt, rfl, hrow⟩⟩
  · obtain rfl : l = [] := List.eq_nil_of_length_eq_zero (by omega)
    rcases h9.2 with ⟨e, _⟩ | ⟨g, cap, cur, e, _⟩
    · exact ⟨none, 0, e, Or.inl rfl⟩
    · exact ⟨_, cap, e, Or.inl rfl⟩
theorem But.on {B B0 : Nat} {w w2 w9 : World} (h : But B w w2) (g : Below B0 w2 w9) (h0 : w.heap.size ≤ B0) : But B w w9 :=
  ⟨g.os.trans h.os, g.tape.trans h.tape, g.output.trans h.output, Nat.le_trans h.size g.size, fun k hk hB => (g.block k (by omega)).trans (h.block k hk hB)⟩
theorem Cur.on {B B0 N : Nat} {sv : Value} {w2 w9 : World} (h : Cur B N sv w2) (g : Below B0 w2 w9) (h0 : B < B0) : Cur B N sv w9 := by
  have hc : ∀ i, w9.cell? ⟨B, i, none⟩ = w2.cell? ⟨B, i, none⟩ := fun i => g.cell (p := ⟨B, i, none⟩) h0
  have hf : ∀ i, w9.frozen? ⟨B, i, none⟩ = w2.frozen? ⟨B, i, none⟩ := fun i => g.frozen (p := ⟨B, i, none⟩) h0
  obtain ⟨p, p0, p1, hp⟩ := h.place
  obtain ⟨s, s0, s1, hs⟩ := h.seed
  exact ⟨Nat.lt_of_lt_of_le h.lt g.size, (hc 0).trans h.code, ⟨p, p0, p1, (hc 1).trans hp⟩, ⟨s, s0, s1, (hc 2).trans hs⟩, (hf 1).trans h.free1, (hf 2).trans h.free2⟩
set_option maxHeartbeats 2000000 in
theorem volOps_any (B N len cap : Nat) (a : Option Addr) (w : World) (hN : N ≤ 880000) (hC : Cur B N (.slice a len cap) w) (hK : Code B len cap a w) :
    Calls Try.prog 30 #[.pointer (some ⟨B, 0, none⟩)] w fun e w' => ∃ (v : Value) (l : List Op), e = .returned v ∧ l.length ≤ 61 ∧ (∀ o ∈ l, o.data.size ≤ 9) ∧ OG w.heap.size v l w' ∧ Cur B (N + 4000) (.slice a len cap) w' ∧ But B w w' := by
  have hlt := hC.lt
  have HC := hid hC
  have HK := hid hK
  clear hC hK
  go_enter Try.func30, Try.ntmps30
  go_wp2_with fail
  refine (pick_any _ B N len cap a _ (by omega) (by omega) (by omega) HC.out HK.out).mono ?_
  rintro e w1 ⟨n, rfl, n0, n1, hC1, hB1⟩
  have HC1 := hid hC1
  have HB1 := hid hB1
  have HK1 : Hid (Code B len cap a w1) := HK.out.but hB1 (Nat.le_refl _) (by omega)
  have hs1 := hB1.size
  clear hC1 hB1 HC
  go_wp2_with fail
  refine (one_any _ B (N + 2) len cap a _ (by omega) (by omega) (by omega) HC1.out HK1.out).mono ?_
  rintro e w2 ⟨v2, rfl, hC2, hB2⟩
  have HC2 := hid hC2
  have HB2 : Hid (But B w w2) := HB1.out.trans hB2
  have HK2 : Hid (Code B len cap a w2) := HK1.out.but hB2 (Nat.le_refl _) (by omega)
  have hs2 := hB2.size
  clear hC2 hB2 HC1 HB1 HK1
  cases v2
  · obtain ⟨J0, hJ0⟩ : ∃ J0 : Nat, n = (J0 : Int) := ⟨n.toNat, by omega⟩
    have hj0 : J0 ≤ 61 := by omega
    have HJ := hid hJ0
    subst hJ0
    go_wp2_with fail
    go_loopw [3, 4] (fun o n wr => ∃ (j : Nat) (l : List Op) (o1 : Value), o = o1 ∧ n = .int .i64 (j : Int) ∧ l.length + j ≤ 61 ∧ (∀ x ∈ l, x.data.size ≤ 9) ∧ OG w.heap.size o1 l wr ∧ Cur B (N + 6 + 60 * l.length) (.slice a len cap) wr ∧ But B w wr) (fun _ n _ => (intOf n).toNat)
    case atStart => exact ⟨J0, [], _, rfl, by first | rfl | (rw [HJ.out]), by simpa using hj0, (fun _ h => by cases h), OG.nil _ _, HC2.out.mono (by omega), HB2.out⟩
    case round =>
      clear HC2 HB2 HK2
      obtain ⟨j, l, _, rfl, rfl, hj, hz, hown, hcur, hbut⟩ := hrel
      have HOWN := hid hown
      have HCUR := hid hcur
      have HBUT := hid hbut
      have HZZ := hid hz
      have HCODE : Hid (Code B len cap a wr) := HK.out.but hbut (Nat.le_refl _) (by omega)
      have hszr := hbut.size
      clear hown hcur hbut hz
      by_cases hj1 : 0 < j
      · have hd : decide ((0 : Int) < (j : Int)) = true := decide_eq_true (by omega)
        go_wp2_with fail
        refine (volOp_any B _ len cap a _ (by omega) HCUR.out HCODE.out).mono ?_
        rintro e w3 ⟨x, rfl, hx9, hC3, hB3⟩
        have hs3 : w.heap.size ≤ w3.heap.size := Nat.le_trans hszr hB3.size
        have HO3 := hid (HOWN.out.but hB3 hlt)
        have HC3 := hid hC3
        have HB3 : Hid (But B w w3) := HBUT.out.trans hB3
        clear hC3 hB3 HCUR HBUT HCODE HOWN
        obtain ⟨v', w', r1, o1, g1⟩ := HO3.out.push hs3 x (by omega)
        have HO := hid o1
        have HB' : Hid (But B w w') := HB3.out.on g1 (Nat.le_refl _)
        have HC' : Hid (Cur B (N + 6 + 60 * l.length + 60) (.slice a len cap) w') := HC3.out.on g1 hlt
        have HZ' : Hid (∀ y ∈ l ++ [x], y.data.size ≤ 9) := fun y hy => by
          rcases List.mem_append.1 hy with hy | hy
          · exact HZZ.out y hy
          · rw [List.mem_singleton.1 hy]; exact hx9
        unfold oval
        clear o1 g1 HO3 HC3 HB3 hd hx9
        go_wp2_with (at_builtin; refine wpList_append_run rfl (.tmp 16) (.tmp 19) 23 rfl _ _ rfl rfl _ _ r1 ?_)
        go_roundw
        case rel => exact ⟨j - 1, l ++ [x], _, rfl, by rw [show ((j - 1 : Nat) : Int) = (j : Int) - 1 from by omega], by rw [List.length_append]; simp; omega, HZ'.out, HO.out, HC'.out.mono (by rw [List.length_append]; simp; omega), HB'.out⟩
        case measure => simp [intOf]; omega
      · obtain rfl : j = 0 := by omega
        have hd : decide ((0 : Int) < ((0 : Nat) : Int)) = false := by decide
        have hl61 : l.length ≤ 61 := by omega
        go_wp2
        go_ret
        exact ⟨_, l, rfl, hl61, HZZ.out, HOWN.out, HCUR.out.mono (by omega), HBUT.out⟩
  · go_wp2_with fail
    refine (pick_any _ B _ len cap a _ (by omega) (by omega) (by omega) HC2.out HK2.out).mono ?_
    rintro e w9 ⟨n9, rfl, n90, n91, hC9, hB9⟩
    obtain ⟨J9, hJ9⟩ : ∃ J9 : Nat, n9 = (J9 : Int) := ⟨n9.toNat, by omega⟩
    subst hJ9
    obtain ⟨J0, hJ0⟩ : ∃ J0 : Nat, J0 = 59 + J9 := ⟨_, rfl⟩
    have hj0 : J0 ≤ 61 := by omega
    have HJ : Hid (59 + (J9 : Int) = (J0 : Int)) := by show _ = _; omega
    have HC2 : Hid (Cur B (N + 2 + 2 + 2) (.slice a len cap) w9) := hC9
    have HB2 : Hid (But B w w9) := HB2.out.trans hB9
    have HK2 : True := trivial
    clear hC9 hB9 hJ0
    go_wp2_with fail
    go_loopw [3, 4] (fun o n wr => ∃ (j : Nat) (l : List Op) (o1 : Value), o = o1 ∧ n = .int .i64 (j : Int) ∧ l.length + j ≤ 61 ∧ (∀ x ∈ l, x.data.size ≤ 9) ∧ OG w.heap.size o1 l wr ∧ Cur B (N + 6 + 60 * l.length) (.slice a len cap) wr ∧ But B w wr) (fun _ n _ => (intOf n).toNat)
    case atStart => exact ⟨J0, [], _, rfl, by first | rfl | (rw [HJ.out]), by simpa using hj0, (fun _ h => by cases h), OG.nil _ _, HC2.out.mono (by omega), HB2.out⟩
    case round =>
      clear HC2 HB2 HK2
      obtain ⟨j, l, _, rfl, rfl, hj, hz, hown, hcur, hbut⟩ := hrel
      have HOWN := hid hown
      have HCUR := hid hcur
      have HBUT := hid hbut
      have HZZ := hid hz
      have HCODE : Hid (Code B len cap a wr) := HK.out.but hbut (Nat.le_refl _) (by omega)
      have hszr := hbut.size
      clear hown hcur hbut hz
      by_cases hj1 : 0 < j
      · have hd : decide ((0 : Int) < (j : Int)) = true := decide_eq_true (by omega)
        go_wp2_with fail
        refine (volOp_any B _ len cap a _ (by omega) HCUR.out HCODE.out).mono ?_
        rintro e w3 ⟨x, rfl, hx9, hC3, hB3⟩
        have hs3 : w.heap.size ≤ w3.heap.size := Nat.le_trans hszr hB3.size
        have HO3 := hid (HOWN.out.but hB3 hlt)
        have HC3 := hid hC3
        have HB3 : Hid (But B w w3) := HBUT.out.trans hB3
        clear hC3 hB3 HCUR HBUT HCODE HOWN
        obtain ⟨v', w', r1, o1, g1⟩ := HO3.out.push hs3 x (by omega)
        have HO := hid o1
        have HB' : Hid (But B w w') := HB3.out.on g1 (Nat.le_refl _)
        have HC' : Hid (Cur B (N + 6 + 60 * l.length + 60) (.slice a len cap) w') := HC3.out.on g1 hlt
        have HZ' : Hid (∀ y ∈ l ++ [x], y.data.size ≤ 9) := fun y hy => by
          rcases List.mem_append.1 hy with hy | hy
          · exact HZZ.out y hy
          · rw [List.mem_singleton.1 hy]; exact hx9
        unfold oval
        clear o1 g1 HO3 HC3 HB3 hd hx9
        go_wp2_with (at_builtin; refine wpList_append_run rfl (.tmp 16) (.tmp 19) 23 rfl _ _ rfl rfl _ _ r1 ?_)
        go_roundw
        case rel => exact ⟨j - 1, l ++ [x], _, rfl, by rw [show ((j - 1 : Nat) : Int) = (j : Int) - 1 from by omega], by rw [List.length_append]; simp; omega, HZ'.out, HO.out, HC'.out.mono (by rw [List.length_append]; simp; omega), HB'.out⟩
        case measure => simp [intOf]; omega
      · obtain rfl : j = 0 := by omega
        have hd : decide ((0 : Int) < ((0 : Nat) : Int)) = false := by decide
        have hl61 : l.length ≤ 61 := by omega
        go_wp2
        go_ret
        exact ⟨_, l, rfl, hl61, HZZ.out, HOWN.out, HCUR.out.mono (by omega), HBUT.out⟩
end Go.Proofs.Ytlbhfgcpflhccaa
namespace Go.Proofs.Ytlbhfgcpflhccaa
set_option maxRecDepth 100000
open Go Go.ChangeShapes Go.WideShapes Go.ChangeAt Go.RowKit G00541
set_option maxHeartbeats 1000000 in
theorem splay_no (a : Option Addr) (cap : Nat) (l : List Op) (w : World) (hn : ¬ l.length ≤ 60) (hm : l.length ≤ 1048576) :
    Calls Try.prog 7 #[.slice a l.length cap] w fun e w' => POut ([], 0, [], 0) [] false w e w' := by
  have hd60 : decide ((60 : Int) < (l.length : Int)) = true := decide_eq_true (by omega)
  have g0 := boxB w (.cells #[.slice none 0 0, .int .i64 0, .slice none 0 0, .int .i64 0] 28)
  have k0 := heap_last w (.cells #[.slice none 0 0, .int .i64 0, .slice none 0 0, .int .i64 0] 28)
  generalize hW0 : w.alloc (.cells #[.slice none 0 0, .int .i64 0, .slice none 0 0, .int .i64 0] 28) = w0 at *
  obtain ⟨⟨z0, z1, z2, z3⟩, f0, f1, f2, f3⟩ := box4 k0
  have hbn := box_set (box_set (box_set (box_set k0 0 (.slice none 0 0)) 1 (.int .i64 0)) 2 (.slice none 0 0)) 3 (.int .i64 0)
  have e0 := box_cell hbn 0
  have e1 := box_cell hbn 1
  have e2 := box_cell hbn 2
  have e3 := box_cell hbn 3
  simp only [List.setIfInBounds_toArray, List.set_cons_zero, List.set_cons_succ, List.getElem?_toArray, List.getElem?_cons_zero, List.getElem?_cons_succ] at e0 e1 e2 e3
  have HB := hid (setB (setB (setB (setB g0 w.heap.size 0 (Nat.le_refl _) (.slice none 0 0)) w.heap.size 1 (Nat.le_refl _) (.int .i64 0)) w.heap.size 2 (Nat.le_refl _) (.slice none 0 0)) w.heap.size 3 (Nat.le_refl _) (.int .i64 0))
  clear g0 k0 hbn
  go_enter Try.func7, Try.ntmps7
  go_wp2_with fail
  generalize ((((w0.setCell ⟨w.heap.size, 0, none⟩ (.slice none 0 0)).setCell ⟨w.heap.size, 1, none⟩ (.int .i64 0)).setCell ⟨w.heap.size, 2, none⟩ (.slice none 0 0)).setCell ⟨w.heap.size, 3, none⟩ (.int .i64 0)) = XX at *
  refine bodyPost_ret (v := .tuple #[.agg #[.slice none 0 0, .int .i64 0, .slice none 0 0, .int .i64 0], .slice none 0 0, .bool false]) (by simp [results, Try.results7, go_sem, e0, e1, e2, e3]) rfl ?_
  exact ⟨none, 0, none, 0, none, 0, Nat.le_refl _, rfl, w.heap.size, w.heap.size, w.heap.size, w.heap.size, Nat.le_refl _, HB.out.size, Nat.le_refl _, HB.out.size, Nat.le_refl _, Nat.le_refl _, Or.inl (Nat.le_refl _), OwnV.none _ _ (Nat.le_refl _) _ _ _, Or.inl rfl, HB.out⟩
set_option maxHeartbeats 1000000 in
theorem iplay_no (a : Option Addr) (cap : Nat) (l : List Op) (w : World) (hn : ¬ l.length ≤ 60) (hm : l.length ≤ 1048576) :
    Calls Try.prog 6 #[.slice a l.length cap] w fun e w' => POut ([], 0, [], 0) [] false w e w' := by
  have hd60 : decide ((60 : Int) < (l.length : Int)) = true := decide_eq_true (by omega)
  have g0 := boxB w (.cells #[.slice none 0 0, .int .i64 0, .slice none 0 0, .int .i64 0] 28)
  have k0 := heap_last w (.cells #[.slice none 0 0, .int .i64 0, .slice none 0 0, .int .i64 0] 28)
  generalize hW0 : w.alloc (.cells #[.slice none 0 0, .int .i64 0, .slice none 0 0, .int .i64 0] 28) = w0 at *
  obtain ⟨⟨z0, z1, z2, z3⟩, f0, f1, f2, f3⟩ := box4 k0
  have hbn := box_set (box_set (box_set (box_set k0 0 (.slice none 0 0)) 1 (.int .i64 0)) 2 (.slice none 0 0)) 3 (.int .i64 0)
  have e0 := box_cell hbn 0
  have e1 := box_cell hbn 1
  have e2 := box_cell hbn 2
  have e3 := box_cell hbn 3
  simp only [List.setIfInBounds_toArray, List.set_cons_zero, List.set_cons_succ, List.getElem?_toArray, List.getElem?_cons_zero, List.getElem?_cons_succ] at e0 e1 e2 e3
  have HB := hid (setB (setB (setB (setB g0 w.heap.size 0 (Nat.le_refl _) (.slice none 0 0)) w.heap.size 1 (Nat.le_refl _) (.int .i64 0)) w.heap.size 2 (Nat.le_refl _) (.slice none 0 0)) w.heap.size 3 (Nat.le_refl _) (.int .i64 0))
  clear g0 k0 hbn
  go_enter Try.func6, Try.ntmps6
  go_wp2_with fail
  generalize ((((w0.setCell ⟨w.heap.size, 0, none⟩ (.slice none 0 0)).setCell ⟨w.heap.size, 1, none⟩ (.int .i64 0)).setCell ⟨w.heap.size, 2, none⟩ (.slice none 0 0)).setCell ⟨w.heap.size, 3, none⟩ (.int .i64 0)) = XX at *
  refine bodyPost_ret (v := .tuple #[.agg #[.slice none 0 0, .int .i64 0, .slice none 0 0, .int .i64 0], .slice none 0 0, .bool false]) (by simp [results, Try.results6, go_sem, e0, e1, e2, e3]) rfl ?_
  exact ⟨none, 0, none, 0, none, 0, Nat.le_refl _, rfl, w.heap.size, w.heap.size, w.heap.size, w.heap.size, Nat.le_refl _, HB.out.size, Nat.le_refl _, HB.out.size, Nat.le_refl _, Nat.le_refl _, Or.inl (Nat.le_refl _), OwnV.none _ _ (Nat.le_refl _) _ _ _, Or.inl rfl, HB.out⟩
theorem splay_any (a : Option Addr) (cap : Nat) (l : List Op) (w : World) (hm : l.length ≤ 1048576) (hZ : Os w.heap.size a l w) :
    Calls Try.prog 7 #[.slice a l.length cap] w fun e w' => POut (plV l) (plD l) (plOk l) w e w' := by
  unfold plV plD plOk
  by_cases h : l.length ≤ 60
  · rw [if_pos h, if_pos h, decide_eq_true h]
    exact splay_yes a cap l w h hZ
  · rw [if_neg h, if_neg h, decide_eq_false h]
    exact splay_no a cap l w h hm
theorem iplay_any (a : Option Addr) (cap : Nat) (l : List Op) (w : World) (hm : l.length ≤ 1048576) (hZ : Os w.heap.size a l w) :
    Calls Try.prog 6 #[.slice a l.length cap] w fun e w' => POut (plV l) (plD l) (plOk l) w e w' := by
  unfold plV plD plOk
  by_cases h : l.length ≤ 60
  · rw [if_pos h, if_pos h, decide_eq_true h]
    exact iplay_yes a cap l w h hZ
  · rw [if_neg h, if_neg h, decide_eq_false h]
    exact iplay_no a cap l w h hm
theorem pl_fit (l : List Op) : FitV (plV l).1 (plV l).2.2.1 ∧ (plD l).length ≤ 60 := by
  unfold plV plD
  by_cases h : l.length ≤ 60
  · rw [if_pos h, if_pos h]
    have hg := runV_good l (newV, []) GoodVol.new
    have h1 := goodBs_len hg.bs
    have h2 := hg.len
    refine ⟨⟨by omega, by omega⟩, ?_⟩
    rw [runV_len]
    simpa using h
  · rw [if_neg h, if_neg h]
    exact ⟨⟨by decide, by decide⟩, by decide⟩
/-- function f plays so -/
def TellsPl (f : Nat) (l : List Op) (V : Vol) (D : List Bool) (ok : Bool) : Prop := ∀ (q : Option Addr) (d : Nat) (v : World), Os v.heap.size q l v → Calls Try.prog f #[.slice q l.length d] v fun e w' => POut V D ok v e w'
end Go.Proofs.Ytlbhfgcpflhccaa
namespace Go.Proofs.Ytlbhfgcpflhccaa
set_option maxRecDepth 100000
open Go Go.ChangeShapes Go.WideShapes Go.ChangeAt Go.RowKit G00541
/-- while a volume is drawn: the cursor at B; the answer's box, the volume's at X, its memory in lo .. hi - 1 -/
structure Dv6 (w : World) (B N len cap : Nat) (a : Option Addr) (X : Nat) (v : Vol) (aB : Option Addr) (kB : Nat) (aL : Option Addr) (kL lo hi : Nat) (wr : World) : Prop where
  cur : Cur B N (.slice a len cap) wr
  code : Code B len cap a wr
  bz : wr.heap[w.heap.size]? = some (.cells #[.slice none 0 0, .int .i64 0, .slice none 0 0, .int .i64 0] 28)
  bv : wr.heap[X]? = some (.cells #[.slice aB v.1.length kB, .int .i64 v.2.1, .slice aL v.2.2.1.length kL, .int .i64 v.2.2.2] 28)
  own : OwnV lo hi aB v.1 aL v.2.2.1 wr
  room : v.2.2.1.length ≤ kL
  but : But B w wr
  bB : B < w.heap.size
  wx : w.heap.size < X
  wl : w.heap.size < lo
  xr : hi ≤ X ∨ X < lo
  hs : hi ≤ wr.heap.size
theorem Dv6.step {w : World} {B N N' len cap : Nat} {a : Option Addr} {X : Nat} {v : Vol} {aB : Option Addr} {kB : Nat} {aL : Option Addr} {kL lo hi : Nat} {wr w' : World} (h : Dv6 w B N len cap a X v aB kB aL kL lo hi wr) (hC : Cur B N' (.slice a len cap) w') (g : But B wr w') : Dv6 w B N' len cap a X v aB kB aL kL lo hi w' := by
  have hb := h.bB
  have hwl := h.wl
  have hwx := h.wx
  exact ⟨hC, h.code.but g (Nat.le_refl _) (Nat.le_of_lt h.cur.lt), (g.block _ (kboxV h.bz) (by omega)).trans h.bz, (g.block _ (kboxV h.bv) (by omega)).trans h.bv, h.own.same g.size (fun k h1 h2 => g.block k (by have := h.hs; omega) (by omega)), h.room, h.but.trans g, hb, hwx, hwl, h.xr, Nat.le_trans h.hs g.size⟩
/-- a number of the volume in its box is turned -/
theorem Dv6.setF {w : World} {B N len cap : Nat} {a : Option Addr} {X : Nat} {v : Vol} {aB : Option Addr} {kB : Nat} {aL : Option Addr} {kL lo hi : Nat} {wr : World} (h : Dv6 w B N len cap a X v aB kB aL kL lo hi wr) (F : Int) : Dv6 w B N len cap a X (v.1, F, v.2.2.1, v.2.2.2) aB kB aL kL lo hi (wr.setCell ⟨X, 1, none⟩ (.int .i64 F)) := by
  have hb := h.bB
  have hwx := h.wx
  have hxr := h.xr
  have hz : (wr.setCell ⟨X, 1, none⟩ (.int .i64 F)).heap.size = wr.heap.size := by simp [World.setCell]
  have hk : ∀ q, q ≠ X → (wr.setCell ⟨X, 1, none⟩ (.int .i64 F)).heap[q]? = wr.heap[q]? := fun q hq => keepB _ _ _ _ _ hq
  refine ⟨h.cur.setOther (by omega) _ _, h.code.but ((But.refl X wr).setCell _ _) (by omega) (Nat.le_of_lt h.cur.lt), (hk _ (by omega)).trans h.bz, ?_, h.own.same (by omega) (fun q h1 h2 => hk q (by omega)), h.room, h.but.setNew (by omega) _ _, hb, hwx, h.wl, hxr, by rw [hz]; exact h.hs⟩
  have := box_set h.bv 1 (.int .i64 F)
  simpa using this
theorem Dv6.setS {w : World} {B N len cap : Nat} {a : Option Addr} {X : Nat} {v : Vol} {aB : Option Addr} {kB : Nat} {aL : Option Addr} {kL lo hi : Nat} {wr : World} (h : Dv6 w B N len cap a X v aB kB aL kL lo hi wr) (s : Int) : Dv6 w B N len cap a X (v.1, v.2.1, v.2.2.1, s) aB kB aL kL lo hi (wr.setCell ⟨X, 3, none⟩ (.int .i64 s)) := by
  have hb := h.bB
  have hwx := h.wx
  have hxr := h.xr
  have hz : (wr.setCell ⟨X, 3, none⟩ (.int .i64 s)).heap.size = wr.heap.size := by simp [World.setCell]
  have hk : ∀ q, q ≠ X → (wr.setCell ⟨X, 3, none⟩ (.int .i64 s)).heap[q]? = wr.heap[q]? := fun q hq => keepB _ _ _ _ _ hq
  refine ⟨h.cur.setOther (by omega) _ _, h.code.but ((But.refl X wr).setCell _ _) (by omega) (Nat.le_of_lt h.cur.lt), (hk _ (by omega)).trans h.bz, ?_, h.own.same (by omega) (fun q h1 h2 => hk q (by omega)), h.room, h.but.setNew (by omega) _ _, hb, hwx, h.wl, hxr, by rw [hz]; exact h.hs⟩
  have := box_set h.bv 3 (.int .i64 s)
  simpa using this
/-- the first text is turned in its row -/
theorem Dv6.setB0 {w : World} {B N len cap : Nat} {a : Option Addr} {X : Nat} {v : Vol} {aB : Option Addr} {kB : Nat} {aL : Option Addr} {kL lo hi : Nat} {wr : World} (h : Dv6 w B N len cap a X v aB kB aL kL lo hi wr) (h0 : 0 < v.1.length) (D : ByteArray) : ∃ R, aB = some ⟨R, 0, none⟩ ∧ wr.cell? ⟨R, 0, none⟩ = some (.string v.1[0]) ∧ wr.frozen? ⟨R, 0, none⟩ = false ∧ Dv6 w B N len cap a X (v.1.set 0 D, v.2.1, v.2.2.1, v.2.2.2) aB kB aL kL lo hi (wr.setCell ⟨R, 0, none⟩ (.string D)) := by
  have hb := h.bB
  have hwx := h.wx
  have hwl := h.wl
  have hxr := h.xr
  obtain ⟨mid, m1, m2, hS, hR⟩ := h.own
  rcases hS with e | ⟨R, r1, r2, e, hr⟩
  · rw [e] at h0; exact absurd h0 (Nat.lt_irrefl _)
  subst e
  have hz : (wr.setCell ⟨R, 0, none⟩ (.string D)).heap.size = wr.heap.size := by simp [World.setCell]
  have hk : ∀ q, q ≠ R → (wr.setCell ⟨R, 0, none⟩ (.string D)).heap[q]? = wr.heap[q]? := fun q hq => keepB _ _ _ _ _ hq
  refine ⟨R, rfl, hr.cell 0 h0, hr.free 0 h0, ⟨h.cur.setOther (by omega) _ _, h.code.but ((But.refl R wr).setCell _ _) (by omega) (Nat.le_of_lt h.cur.lt), (hk _ (by omega)).trans h.bz, ?_, ?_, h.room, h.but.setNew (by omega) _ _, hb, hwx, hwl, hxr, by rw [hz]; exact h.hs⟩⟩
  · rw [hk _ (by omega), h.bv, List.length_set]
  · refine ⟨mid, m1, m2, Or.inr ⟨R, r1, r2, rfl, hr.set 0 h0 D⟩, ?_⟩
    rcases hR with e | ⟨R2, q1, q2, e, hr2⟩
    · exact Or.inl e
    · exact Or.inr ⟨R2, q1, q2, e, hr2.same (by omega) (hk R2 (by omega))⟩
/-- what a drawn volume is -/
def VolD (w : World) (B N len cap : Nat) (a : Option Addr) (e : Ending) (w' : World) : Prop := ∃ (v : Vol) (aB : Option Addr) (kB : Nat) (aL : Option Addr) (kL lo hi : Nat), e = .returned (.agg #[.slice aB v.1.length kB, .int .i64 v.2.1, .slice aL v.2.2.1.length kL, .int .i64 v.2.2.2]) ∧ v.1.length = 16 ∧ (∀ x ∈ v.1, x.size ≤ 8) ∧ v.2.2.1.length ≤ 40 ∧ goodL v.2.2.1 = true ∧ v.2.2.1.length ≤ kL ∧ w.heap.size ≤ lo ∧ hi ≤ w'.heap.size ∧ OwnV lo hi aB v.1 aL v.2.2.1 w' ∧ Cur B N (.slice a len cap) w' ∧ But B w w'
theorem Dv6.done {w : World} {B N N' len cap : Nat} {a : Option Addr} {X : Nat} {v : Vol} {aB : Option Addr} {kB : Nat} {aL : Option Addr} {kL lo hi : Nat} {wr : World} (h : Dv6 w B N len cap a X v aB kB aL kL lo hi wr) (h16 : v.1.length = 16) (h8 : ∀ x ∈ v.1, x.size ≤ 8) (h40 : v.2.2.1.length ≤ 40) (hg : goodL v.2.2.1 = true) (hN : N ≤ N') :
    VolD w B N' len cap a (.returned (.agg #[.slice aB v.1.length kB, .int .i64 v.2.1, .slice aL v.2.2.1.length kL, .int .i64 v.2.2.2])) ((((wr.setCell ⟨w.heap.size, 0, none⟩ (.slice aB v.1.length kB)).setCell ⟨w.heap.size, 1, none⟩ (.int .i64 v.2.1)).setCell ⟨w.heap.size, 2, none⟩ (.slice aL v.2.2.1.length kL)).setCell ⟨w.heap.size, 3, none⟩ (.int .i64 v.2.2.2)) := by
  have hb := h.bB
  have hwl := h.wl
  have hz : ((((wr.setCell ⟨w.heap.size, 0, none⟩ (.slice aB v.1.length kB)).setCell ⟨w.heap.size, 1, none⟩ (.int .i64 v.2.1)).setCell ⟨w.heap.size, 2, none⟩ (.slice aL v.2.2.1.length kL)).setCell ⟨w.heap.size, 3, none⟩ (.int .i64 v.2.2.2)).heap.size = wr.heap.size := by simp [World.setCell]
  have hk : ∀ q, q ≠ w.heap.size → ((((wr.setCell ⟨w.heap.size, 0, none⟩ (.slice aB v.1.length kB)).setCell ⟨w.heap.size, 1, none⟩ (.int .i64 v.2.1)).setCell ⟨w.heap.size, 2, none⟩ (.slice aL v.2.2.1.length kL)).setCell ⟨w.heap.size, 3, none⟩ (.int .i64 v.2.2.2)).heap[q]? = wr.heap[q]? := fun q h1 => by
    rw [keepB _ _ _ _ _ h1, keepB _ _ _ _ _ h1, keepB _ _ _ _ _ h1, keepB _ _ _ _ _ h1]
  exact ⟨v, aB, kB, aL, kL, lo, hi, rfl, h16, h8, h40, hg, h.room, by omega, by rw [hz]; exact h.hs, h.own.same (by omega) (fun q h1 h2 => hk q (by omega)), ((((h.cur.setOther (by omega) _ _).setOther (by omega) _ _).setOther (by omega) _ _).setOther (by omega) _ _).mono hN, (((h.but.setNew (Nat.le_refl _) _ _).setNew (Nat.le_refl _) _ _).setNew (Nat.le_refl _) _ _).setNew (Nat.le_refl _) _ _⟩
theorem sizes8 {v : Vol} (h : GoodVol v) : ∀ x ∈ v.1, x.size ≤ 8 := fun x hx => by
  obtain ⟨i, hi, rfl⟩ := List.getElem_of_mem hx
  have := goodBs_two h.bs i hi
  omega
end Go.Proofs.Ytlbhfgcpflhccaa
namespace Go.Proofs.Ytlbhfgcpflhccaa
set_option maxRecDepth 100000
open Go Go.ChangeShapes Go.WideShapes Go.ChangeAt Go.RowKit G00541
set_option maxHeartbeats 3000000 in
theorem volume_any (B N len cap : Nat) (a : Option Addr) (w : World) (hN : N ≤ 870000) (hC : Cur B N (.slice a len cap) w) (hK : Code B len cap a w) :
    Calls Try.prog 47 #[.pointer (some ⟨B, 0, none⟩)] w fun e w' => VolD w B (N + 4100) len cap a e w' := by
  have hlt := hC.lt
  have g0 := boxB w (.cells #[.slice none 0 0, .int .i64 0, .slice none 0 0, .int .i64 0] 28)
  have k0 := heap_last w (.cells #[.slice none 0 0, .int .i64 0, .slice none 0 0, .int .i64 0] 28)
  have z0 := heap_size w (.cells #[.slice none 0 0, .int .i64 0, .slice none 0 0, .int .i64 0] 28)
  have hC0 := hC.alloc (.cells #[.slice none 0 0, .int .i64 0, .slice none 0 0, .int .i64 0] 28)
  have hK0 := hK.but ((But.refl B w).alloc (.cells #[.slice none 0 0, .int .i64 0, .slice none 0 0, .int .i64 0] 28)) (Nat.le_refl _) (Nat.le_of_lt hlt)
  have hB0 := (But.refl B w).alloc (.cells #[.slice none 0 0, .int .i64 0, .slice none 0 0, .int .i64 0] 28)
  generalize hW0 : w.alloc (.cells #[.slice none 0 0, .int .i64 0, .slice none 0 0, .int .i64 0] 28) = w0 at *
  have HC0 := hid hC0
  have HK0 := hid hK0
  have HB0 := hid hB0
  have HX0 := hid k0
  have HZ0 := hid z0
  clear g0 k0 z0 hC0 hK0 hB0 hC hK
  go_enter Try.func47, Try.ntmps47
  go_wp2_with fail
  clear hW0
  refine (volOps_any B N len cap a _ (by omega) HC0.out HK0.out).mono ?_
  rintro e w1 ⟨ov, l, rfl, hl, hz9, og, hC1, hB1⟩
  obtain ⟨ba, bc, rfl, ho⟩ := og.own
  have HPL := hid (splay_any ba bc l w1 (by omega) ho.os)
  have HC1 := hid hC1
  have HB1 : Hid (But B w w1) := HB0.out.trans hB1
  have HX1 : Hid (w1.heap[w.heap.size]? = some (.cells #[.slice none 0 0, .int .i64 0, .slice none 0 0, .int .i64 0] 28)) := (hB1.block _ (kboxV HX0.out) (by omega)).trans HX0.out
  have HK1 : Hid (Code B len cap a w1) := HK0.out.but hB1 (Nat.le_refl _) (by have := HZ0.out; omega)
  have hs1 := hB1.size
  have hz0 := HZ0.out
  have hs01 : w.heap.size < w1.heap.size := by omega
  clear og ho hz9 hC1 hB1 HC0 HK0 HB0 HX0 hz0 hs1
  by_cases h60 : l.length ≤ 60
  · have e1 : plOk l = true := decide_eq_true h60
    have e2 : plV l = (runV l (newV, [])).1 := if_pos h60
    have HG : Hid (GoodVol (plV l)) := by show GoodVol _; rw [e2]; exact runV_good l (newV, []) GoodVol.new
    rw [e1] at HPL
    clear e1 e2 h60
    generalize plV l = v at *
    generalize plD l = d at *
    go_wp2_with fail
    refine HPL.out.mono ?_
    rintro e w2 ⟨aB, kB, aL, kL, da, dk, hcap, rfl, lo, hi, l2, h2, i1, i2, i3, i4, i5, i6, i7, hov, -, g2⟩
    have gX := boxB w2 (.cells #[.slice aB v.1.length kB, .int .i64 v.2.1, .slice aL v.2.2.1.length kL, .int .i64 v.2.2.2] 28)
    have kX := heap_last w2 (.cells #[.slice aB v.1.length kB, .int .i64 v.2.1, .slice aL v.2.2.1.length kL, .int .i64 v.2.2.2] 28)
    have hDv : Dv6 w B (N + 4000) len cap a w2.heap.size v aB kB aL kL lo hi (w2.alloc (.cells #[.slice aB v.1.length kB, .int .i64 v.2.1, .slice aL v.2.2.1.length kL, .int .i64 v.2.2.2] 28)) := by
      have gg := g2.trans (gX.mono g2.size)
      have hsX := gX.size
      exact ⟨HC1.out.on gg (by omega), HK1.out.but (But.ofBelow gg) (Nat.le_refl _) (by omega), (gg.block _ (kboxV HX1.out)).trans HX1.out, kX, hov.below gX, hcap, HB1.out.trans (But.ofBelow gg), hlt, by have := g2.size; omega, by omega, Or.inl i2, by omega⟩
    have HD := hid hDv
    clear hDv gX kX hov g2 HPL HC1 HB1 HX1 HK1 i1 i2 i3 i4 i5 i6 i7 hcap
    go_wp2_with fail
    generalize w2.alloc (.cells #[.slice aB v.1.length kB, .int .i64 v.2.1, .slice aL v.2.2.1.length kL, .int .i64 v.2.2.2] 28) = w3 at *
    generalize w2.heap.size = X at *
    refine (pick_any 30 B _ len cap a _ (by omega) (by omega) (by omega) HD.out.cur HD.out.code).mono ?_
    rintro e w5 ⟨x, rfl, x0, x1, hC5, hB5⟩
    have h5 : Dv6 w B (N + 4000 + 2) len cap a X v aB kB aL kL lo hi w5 := HD.out.step hC5 hB5
    clear hC5 hB5 HD
    rcases (show x = 0 ∨ x = 1 ∨ x = 2 ∨ 3 ≤ x by omega) with rfl | rfl | rfl | h3
    · obtain ⟨⟨q0, q1, q2, q3⟩, g0, g1, g2, g3⟩ := box4 h5.bv
      have h6 := h5.setS (v.2.2.2 + 1)
      have hs := HG.out.s0
      have hs' := HG.out.s1
      have hs'' := HG.out.len
      have hs2 : v.2.2.2 ≤ 40 := by omega
      have H16 := hid (goodBs_len HG.out.bs)
      clear hs' hs'' h5
      obtain ⟨⟨z0, z1, z2, z3⟩, f0, f1, f2, f3⟩ := box4 h6.bz
      obtain ⟨⟨v0, v1, v2, v3⟩, -⟩ := box4 h6.bv
      have hbn := box_set (box_set (box_set (box_set h6.bz 0 (.slice aB v.1.length kB)) 1 (.int .i64 v.2.1)) 2 (.slice aL v.2.2.1.length kL)) 3 (.int .i64 (v.2.2.2 + 1))
      have e0 := box_cell hbn 0
      have e1 := box_cell hbn 1
      have e2 := box_cell hbn 2
      have e3 := box_cell hbn 3
      simp only [List.setIfInBounds_toArray, List.set_cons_zero, List.set_cons_succ, List.getElem?_toArray, List.getElem?_cons_zero, List.getElem?_cons_succ] at e0 e1 e2 e3
      have HF := hid (h6.done (N' := N + 4100) H16.out (fun x hx => sizes8 (v := v) HG.out x hx) HG.out.len HG.out.recs (by omega))
      clear hbn
      simp only at HF
      go_wp2_with fail
      generalize (((((w5.setCell ⟨X, 3, none⟩ (.int .i64 (v.2.2.2 + 1))).setCell ⟨w.heap.size, 0, none⟩ (.slice aB v.1.length kB)).setCell ⟨w.heap.size, 1, none⟩ (.int .i64 v.2.1)).setCell ⟨w.heap.size, 2, none⟩ (.slice aL v.2.2.1.length kL)).setCell ⟨w.heap.size, 3, none⟩ (.int .i64 (v.2.2.2 + 1))) = XX at *
      refine bodyPost_ret (v := .agg #[.slice aB v.1.length kB, .int .i64 v.2.1, .slice aL v.2.2.1.length kL, .int .i64 (v.2.2.2 + 1)]) (by simp [results, Try.results47, go_sem, e0, e1, e2, e3]) rfl ?_
      exact HF.out
    · have H16 := hid (goodBs_len HG.out.bs)
      have hl0 : 0 < v.1.length := by rw [H16.out]; decide
      have hl0i : (0 : Int) < (v.1.length : Int) := by omega
      obtain ⟨⟨q0, q1, q2, q3⟩, g0, g1, g2, g3⟩ := box4 h5.bv
      obtain ⟨R, rfl, cR, fR, h6⟩ := h5.setB0 hl0 ⟨#[108, 111, 110, 103]⟩
      have HSZ : Hid (∀ x ∈ v.1.set 0 ⟨#[108, 111, 110, 103]⟩, x.size ≤ 8) := fun x hx => by
        rcases List.mem_or_eq_of_mem_set hx with hx | hx
        · exact sizes8 (v := v) HG.out x hx
        · subst hx; decide
      have H16' : Hid ((v.1.set 0 (⟨#[108, 111, 110, 103]⟩ : ByteArray)).length = 16) := by show _ = _; rw [List.length_set]; exact H16.out
      clear h5
      obtain ⟨⟨z0, z1, z2, z3⟩, f0, f1, f2, f3⟩ := box4 h6.bz
      obtain ⟨⟨v0, v1, v2, v3⟩, -⟩ := box4 h6.bv
      have hbn := box_set (box_set (box_set (box_set h6.bz 0 (.slice (some ⟨R, 0, none⟩) v.1.length kB)) 1 (.int .i64 v.2.1)) 2 (.slice aL v.2.2.1.length kL)) 3 (.int .i64 v.2.2.2)
      have e0 := box_cell hbn 0
      have e1 := box_cell hbn 1
      have e2 := box_cell hbn 2
      have e3 := box_cell hbn 3
      simp only [List.setIfInBounds_toArray, List.set_cons_zero, List.set_cons_succ, List.getElem?_toArray, List.getElem?_cons_zero, List.getElem?_cons_succ] at e0 e1 e2 e3
      have HF := hid (h6.done (N' := N + 4100) H16'.out (fun x hx => HSZ.out x hx) HG.out.len HG.out.recs (by omega))
      clear hbn
      simp only [List.length_set] at HF v0 e0
      go_wp2_with fail
      generalize (((((w5.setCell ⟨R, 0, none⟩ (.string ⟨#[108, 111, 110, 103]⟩)).setCell ⟨w.heap.size, 0, none⟩ (.slice (some ⟨R, 0, none⟩) v.1.length kB)).setCell ⟨w.heap.size, 1, none⟩ (.int .i64 v.2.1)).setCell ⟨w.heap.size, 2, none⟩ (.slice aL v.2.2.1.length kL)).setCell ⟨w.heap.size, 3, none⟩ (.int .i64 v.2.2.2)) = XX at *
      refine bodyPost_ret (v := .agg #[.slice (some ⟨R, 0, none⟩) v.1.length kB, .int .i64 v.2.1, .slice aL v.2.2.1.length kL, .int .i64 v.2.2.2]) (by simp [results, Try.results47, go_sem, e0, e1, e2, e3]) rfl ?_
      exact HF.out
    · have HL : Hid (∀ i, i < [-1, 7, 200, 201].length → (w5.alloc (.cells #[.int .i64 (-1), .int .i64 7, .int .i64 200, .int .i64 201] 3)).cell? ⟨w5.heap.size, i, none⟩ = some (.int .i64 (([-1, 7, 200, 201] : List Int).getD i 0))) := fun i hi => lits_at [-1, 7, 200, 201] w5 i hi
      have H5 := hid h5
      have hB5 := h5.cur.lt
      have hc5 := h5.code
      have HC5 : Hid (Code B len cap a (w5.alloc (.cells #[.int .i64 (-1), .int .i64 7, .int .i64 200, .int .i64 201] 3))) := hc5.but ((But.refl B w5).alloc _) (Nat.le_refl _) (Nat.le_of_lt hB5)
      have H16 := hid (goodBs_len HG.out.bs)
      clear h5 hc5
      go_wp2_with fail
      refine (among_any [-1, 7, 200, 201] 4 w5.heap.size B _ len cap 4 a _ rfl (by decide) (by decide) (by simp) (by omega) HL.out (by omega) (H5.out.cur.alloc _) HC5.out).mono ?_
      rintro e w6 ⟨i, _, rfl, hC6, hB6⟩
      have h6 := (H5.out.step (H5.out.cur.alloc _) ((But.refl B w5).alloc _)).step hC6 hB6
      generalize ([-1, 7, 200, 201] : List Int).getD i 0 = zf at *
      obtain ⟨⟨q0, q1, q2, q3⟩, g0, g1, g2, g3⟩ := box4 h6.bv
      have h7 := h6.setF zf
      clear hC6 hB6 h6 HL HC5 H5
      obtain ⟨⟨z0, z1, z2, z3⟩, f0, f1, f2, f3⟩ := box4 h7.bz
      obtain ⟨⟨v0, v1, v2, v3⟩, -⟩ := box4 h7.bv
      have hbn := box_set (box_set (box_set (box_set h7.bz 0 (.slice aB v.1.length kB)) 1 (.int .i64 zf)) 2 (.slice aL v.2.2.1.length kL)) 3 (.int .i64 v.2.2.2)
      have e0 := box_cell hbn 0
      have e1 := box_cell hbn 1
      have e2 := box_cell hbn 2
      have e3 := box_cell hbn 3
      simp only [List.setIfInBounds_toArray, List.set_cons_zero, List.set_cons_succ, List.getElem?_toArray, List.getElem?_cons_zero, List.getElem?_cons_succ] at e0 e1 e2 e3
      have HF := hid (h7.done (N' := N + 4100) H16.out (fun x hx => sizes8 (v := v) HG.out x hx) HG.out.len HG.out.recs (by omega))
      clear hbn
      simp only at HF
      go_wp2_with fail
      generalize (((((w6.setCell ⟨X, 1, none⟩ (.int .i64 zf)).setCell ⟨w.heap.size, 0, none⟩ (.slice aB v.1.length kB)).setCell ⟨w.heap.size, 1, none⟩ (.int .i64 zf)).setCell ⟨w.heap.size, 2, none⟩ (.slice aL v.2.2.1.length kL)).setCell ⟨w.heap.size, 3, none⟩ (.int .i64 v.2.2.2)) = XX at *
      refine bodyPost_ret (v := .agg #[.slice aB v.1.length kB, .int .i64 zf, .slice aL v.2.2.1.length kL, .int .i64 v.2.2.2]) (by simp [results, Try.results47, go_sem, e0, e1, e2, e3]) rfl ?_
      exact HF.out
    · have b0 : (x == 0) = false := by simp; omega
      have b1 : (x == 1) = false := by simp; omega
      have b2 : (x == 2) = false := by simp; omega
      have H16 := hid (goodBs_len HG.out.bs)
      obtain ⟨⟨z0, z1, z2, z3⟩, f0, f1, f2, f3⟩ := box4 h5.bz
      obtain ⟨⟨v0, v1, v2, v3⟩, -⟩ := box4 h5.bv
      have hbn := box_set (box_set (box_set (box_set h5.bz 0 (.slice aB v.1.length kB)) 1 (.int .i64 v.2.1)) 2 (.slice aL v.2.2.1.length kL)) 3 (.int .i64 v.2.2.2)
      have e0 := box_cell hbn 0
      have e1 := box_cell hbn 1
      have e2 := box_cell hbn 2
      have e3 := box_cell hbn 3
      simp only [List.setIfInBounds_toArray, List.set_cons_zero, List.set_cons_succ, List.getElem?_toArray, List.getElem?_cons_zero, List.getElem?_cons_succ] at e0 e1 e2 e3
      have HF := hid (h5.done (N' := N + 4100) H16.out (sizes8 HG.out) HG.out.len HG.out.recs (by omega))
      clear hbn
      go_wp2_with fail
      generalize ((((w5.setCell ⟨w.heap.size, 0, none⟩ (.slice aB v.1.length kB)).setCell ⟨w.heap.size, 1, none⟩ (.int .i64 v.2.1)).setCell ⟨w.heap.size, 2, none⟩ (.slice aL v.2.2.1.length kL)).setCell ⟨w.heap.size, 3, none⟩ (.int .i64 v.2.2.2)) = XX at *
      refine bodyPost_ret (v := .agg #[.slice aB v.1.length kB, .int .i64 v.2.1, .slice aL v.2.2.1.length kL, .int .i64 v.2.2.2]) (by simp [results, Try.results47, go_sem, e0, e1, e2, e3]) rfl ?_
      exact HF.out
  · have e1 : plOk l = false := decide_eq_false h60
    have e2 : plV l = ([], 0, [], 0) := if_neg h60
    rw [e1, e2] at HPL
    clear e1 e2 h60
    generalize plD l = d at *
    unfold POut at HPL
    simp only [List.length_nil] at HPL
    go_wp2_with fail
    refine HPL.out.mono ?_
    rintro e w2 ⟨aB0, kB0, aL0, kL0, da, dk, -, rfl, lo0, hi0, l2, h2, i1, i2, i3, i4, i5, i6, i7, -, -, g2⟩
    have gX := boxB w2 (.cells #[.slice aB0 0 kB0, .int .i64 0, .slice aL0 0 kL0, .int .i64 0] 28)
    have kX := heap_last w2 (.cells #[.slice aB0 0 kB0, .int .i64 0, .slice aL0 0 kL0, .int .i64 0] 28)
    have HG2 := hid g2
    have HGX := hid gX
    have HKX := hid kX
    clear i1 i2 i3 i4 i5 i6 i7 gX kX g2 HPL
    go_wp2_with fail
    generalize w2.alloc (.cells #[.slice aB0 0 kB0, .int .i64 0, .slice aL0 0 kL0, .int .i64 0] 28) = w3 at *
    refine (snew_any _).mono ?_
    rintro e w4 ⟨b, c, rfl, o4, g4⟩
    have hX4 := (g4.block _ (kboxV HKX.out)).trans HKX.out
    obtain ⟨⟨y0, y1, y2, y3⟩, j0, j1, j2, j3⟩ := box4 hX4
    have hDv : Dv6 w B (N + 4000) len cap a w2.heap.size newV b c none 0 w3.heap.size w4.heap.size ((((w4.setCell ⟨w2.heap.size, 0, none⟩ (.slice b 16 c)).setCell ⟨w2.heap.size, 1, none⟩ (.int .i64 0)).setCell ⟨w2.heap.size, 2, none⟩ (.slice none 0 0)).setCell ⟨w2.heap.size, 3, none⟩ (.int .i64 0)) := by
      have g3 := HG2.out.trans (HGX.out.mono HG2.out.size)
      have gg := g3.trans (g4.mono g3.size)
      have hs2 := HG2.out.size
      have hs3 := kboxV HKX.out
      have hs4 := g4.size
      have hk : ∀ q, q ≠ w2.heap.size → ((((w4.setCell ⟨w2.heap.size, 0, none⟩ (.slice b 16 c)).setCell ⟨w2.heap.size, 1, none⟩ (.int .i64 0)).setCell ⟨w2.heap.size, 2, none⟩ (.slice none 0 0)).setCell ⟨w2.heap.size, 3, none⟩ (.int .i64 0)).heap[q]? = w4.heap[q]? := fun q h1 => by
        rw [keepB _ _ _ _ _ h1, keepB _ _ _ _ _ h1, keepB _ _ _ _ _ h1, keepB _ _ _ _ _ h1]
      have hzz : ((((w4.setCell ⟨w2.heap.size, 0, none⟩ (.slice b 16 c)).setCell ⟨w2.heap.size, 1, none⟩ (.int .i64 0)).setCell ⟨w2.heap.size, 2, none⟩ (.slice none 0 0)).setCell ⟨w2.heap.size, 3, none⟩ (.int .i64 0)).heap.size = w4.heap.size := by simp [World.setCell]
      have hbt : But B w ((((w4.setCell ⟨w2.heap.size, 0, none⟩ (.slice b 16 c)).setCell ⟨w2.heap.size, 1, none⟩ (.int .i64 0)).setCell ⟨w2.heap.size, 2, none⟩ (.slice none 0 0)).setCell ⟨w2.heap.size, 3, none⟩ (.int .i64 0)) := ((((HB1.out.trans (But.ofBelow gg)).setNew (by omega) _ _).setNew (by omega) _ _).setNew (by omega) _ _).setNew (by omega) _ _
      refine ⟨((((HC1.out.on gg (by omega)).setOther (by omega) _ _).setOther (by omega) _ _).setOther (by omega) _ _).setOther (by omega) _ _, ((((HK1.out.but (But.ofBelow gg) (Nat.le_refl _) (by omega)).but ((But.refl w2.heap.size w4).setCell _ _) (by omega) (by omega)).but ((But.refl w2.heap.size _).setCell _ _) (by omega) (by simp [World.setCell]; omega)).but ((But.refl w2.heap.size _).setCell _ _) (by omega) (by simp [World.setCell]; omega)).but ((But.refl w2.heap.size _).setCell _ _) (by omega) (by simp [World.setCell]; omega), (hk _ (by omega)).trans ((gg.block _ (kboxV HX1.out)).trans HX1.out), ?_, o4.same (by omega) (fun q h1 h2 => hk q (by omega)), by decide, hbt, hlt, by omega, by omega, Or.inr hs3, by omega⟩
      have := box_set (box_set (box_set (box_set hX4 0 (.slice b 16 c)) 1 (.int .i64 0)) 2 (.slice none 0 0)) 3 (.int .i64 0)
      have h9 : ((((w4.setCell ⟨w2.heap.size, 0, none⟩ (.slice b 16 c)).setCell ⟨w2.heap.size, 1, none⟩ (.int .i64 0)).setCell ⟨w2.heap.size, 2, none⟩ (.slice none 0 0)).setCell ⟨w2.heap.size, 3, none⟩ (.int .i64 0)).heap[w2.heap.size]? = some (.cells #[.slice b 16 c, .int .i64 0, .slice none 0 0, .int .i64 0] 28) := by simpa using this
      exact h9
    have HD := hid hDv
    have HG := hid GoodVol.new
    clear hDv o4 g4 hX4 HG2 HGX HKX HC1 HB1 HX1 HK1
    go_wp2_with fail
    generalize ((((w4.setCell ⟨w2.heap.size, 0, none⟩ (.slice b 16 c)).setCell ⟨w2.heap.size, 1, none⟩ (.int .i64 0)).setCell ⟨w2.heap.size, 2, none⟩ (.slice none 0 0)).setCell ⟨w2.heap.size, 3, none⟩ (.int .i64 0)) = w5a at *
    generalize w2.heap.size = X at *
    generalize newV = v at *
    generalize w3.heap.size = lo at *
    generalize w4.heap.size = hi at *
    obtain ⟨aB, haB⟩ : ∃ aB, aB = b := ⟨_, rfl⟩
    obtain ⟨kB, hkB⟩ : ∃ kB, kB = c := ⟨_, rfl⟩
    subst haB; subst hkB
    obtain ⟨aL, haL⟩ : ∃ aL : Option Addr, aL = none := ⟨_, rfl⟩
    obtain ⟨kL, hkL⟩ : ∃ kL : Nat, kL = 0 := ⟨_, rfl⟩
    rw [← haL, ← hkL] at HD
    clear haL hkL
    refine (pick_any 30 B _ len cap a _ (by omega) (by omega) (by omega) HD.out.cur HD.out.code).mono ?_
    rintro e w5 ⟨x, rfl, x0, x1, hC5, hB5⟩
    have h5 : Dv6 w B (N + 4000 + 2) len cap a X v aB kB aL kL lo hi w5 := HD.out.step hC5 hB5
    clear hC5 hB5 HD
    rcases (show x = 0 ∨ x = 1 ∨ x = 2 ∨ 3 ≤ x by omega) with rfl | rfl | rfl | h3
    · obtain ⟨⟨q0, q1, q2, q3⟩, g0, g1, g2, g3⟩ := box4 h5.bv
      have h6 := h5.setS (v.2.2.2 + 1)
      have hs := HG.out.s0
      have hs' := HG.out.s1
      have hs'' := HG.out.len
      have hs2 : v.2.2.2 ≤ 40 := by omega
      have H16 := hid (goodBs_len HG.out.bs)
      clear hs' hs'' h5
      obtain ⟨⟨z0, z1, z2, z3⟩, f0, f1, f2, f3⟩ := box4 h6.bz
      obtain ⟨⟨v0, v1, v2, v3⟩, -⟩ := box4 h6.bv
      have hbn := box_set (box_set (box_set (box_set h6.bz 0 (.slice aB v.1.length kB)) 1 (.int .i64 v.2.1)) 2 (.slice aL v.2.2.1.length kL)) 3 (.int .i64 (v.2.2.2 + 1))
      have e0 := box_cell hbn 0
      have e1 := box_cell hbn 1
      have e2 := box_cell hbn 2
      have e3 := box_cell hbn 3
      simp only [List.setIfInBounds_toArray, List.set_cons_zero, List.set_cons_succ, List.getElem?_toArray, List.getElem?_cons_zero, List.getElem?_cons_succ] at e0 e1 e2 e3
      have HF := hid (h6.done (N' := N + 4100) H16.out (fun x hx => sizes8 (v := v) HG.out x hx) HG.out.len HG.out.recs (by omega))
      clear hbn
      simp only at HF
      go_wp2_with fail
      generalize (((((w5.setCell ⟨X, 3, none⟩ (.int .i64 (v.2.2.2 + 1))).setCell ⟨w.heap.size, 0, none⟩ (.slice aB v.1.length kB)).setCell ⟨w.heap.size, 1, none⟩ (.int .i64 v.2.1)).setCell ⟨w.heap.size, 2, none⟩ (.slice aL v.2.2.1.length kL)).setCell ⟨w.heap.size, 3, none⟩ (.int .i64 (v.2.2.2 + 1))) = XX at *
      refine bodyPost_ret (v := .agg #[.slice aB v.1.length kB, .int .i64 v.2.1, .slice aL v.2.2.1.length kL, .int .i64 (v.2.2.2 + 1)]) (by simp [results, Try.results47, go_sem, e0, e1, e2, e3]) rfl ?_
      exact HF.out
    · have H16 := hid (goodBs_len HG.out.bs)
      have hl0 : 0 < v.1.length := by rw [H16.out]; decide
      have hl0i : (0 : Int) < (v.1.length : Int) := by omega
      obtain ⟨⟨q0, q1, q2, q3⟩, g0, g1, g2, g3⟩ := box4 h5.bv
      obtain ⟨R, rfl, cR, fR, h6⟩ := h5.setB0 hl0 ⟨#[108, 111, 110, 103]⟩
      have HSZ : Hid (∀ x ∈ v.1.set 0 ⟨#[108, 111, 110, 103]⟩, x.size ≤ 8) := fun x hx => by
        rcases List.mem_or_eq_of_mem_set hx with hx | hx
        · exact sizes8 (v := v) HG.out x hx
        · subst hx; decide
      have H16' : Hid ((v.1.set 0 (⟨#[108, 111, 110, 103]⟩ : ByteArray)).length = 16) := by show _ = _; rw [List.length_set]; exact H16.out
      clear h5
      obtain ⟨⟨z0, z1, z2, z3⟩, f0, f1, f2, f3⟩ := box4 h6.bz
      obtain ⟨⟨v0, v1, v2, v3⟩, -⟩ := box4 h6.bv
      have hbn := box_set (box_set (box_set (box_set h6.bz 0 (.slice (some ⟨R, 0, none⟩) v.1.length kB)) 1 (.int .i64 v.2.1)) 2 (.slice aL v.2.2.1.length kL)) 3 (.int .i64 v.2.2.2)
      have e0 := box_cell hbn 0
      have e1 := box_cell hbn 1
      have e2 := box_cell hbn 2
      have e3 := box_cell hbn 3
      simp only [List.setIfInBounds_toArray, List.set_cons_zero, List.set_cons_succ, List.getElem?_toArray, List.getElem?_cons_zero, List.getElem?_cons_succ] at e0 e1 e2 e3
      have HF := hid (h6.done (N' := N + 4100) H16'.out (fun x hx => HSZ.out x hx) HG.out.len HG.out.recs (by omega))
      clear hbn
      simp only [List.length_set] at HF v0 e0
      go_wp2_with fail
      generalize (((((w5.setCell ⟨R, 0, none⟩ (.string ⟨#[108, 111, 110, 103]⟩)).setCell ⟨w.heap.size, 0, none⟩ (.slice (some ⟨R, 0, none⟩) v.1.length kB)).setCell ⟨w.heap.size, 1, none⟩ (.int .i64 v.2.1)).setCell ⟨w.heap.size, 2, none⟩ (.slice aL v.2.2.1.length kL)).setCell ⟨w.heap.size, 3, none⟩ (.int .i64 v.2.2.2)) = XX at *
      refine bodyPost_ret (v := .agg #[.slice (some ⟨R, 0, none⟩) v.1.length kB, .int .i64 v.2.1, .slice aL v.2.2.1.length kL, .int .i64 v.2.2.2]) (by simp [results, Try.results47, go_sem, e0, e1, e2, e3]) rfl ?_
      exact HF.out
    · have HL : Hid (∀ i, i < [-1, 7, 200, 201].length → (w5.alloc (.cells #[.int .i64 (-1), .int .i64 7, .int .i64 200, .int .i64 201] 3)).cell? ⟨w5.heap.size, i, none⟩ = some (.int .i64 (([-1, 7, 200, 201] : List Int).getD i 0))) := fun i hi => lits_at [-1, 7, 200, 201] w5 i hi
      have H5 := hid h5
      have hB5 := h5.cur.lt
      have hc5 := h5.code
      have HC5 : Hid (Code B len cap a (w5.alloc (.cells #[.int .i64 (-1), .int .i64 7, .int .i64 200, .int .i64 201] 3))) := hc5.but ((But.refl B w5).alloc _) (Nat.le_refl _) (Nat.le_of_lt hB5)
      have H16 := hid (goodBs_len HG.out.bs)
      clear h5 hc5
      go_wp2_with fail
      refine (among_any [-1, 7, 200, 201] 4 w5.heap.size B _ len cap 4 a _ rfl (by decide) (by decide) (by simp) (by omega) HL.out (by omega) (H5.out.cur.alloc _) HC5.out).mono ?_
      rintro e w6 ⟨i, _, rfl, hC6, hB6⟩
      have h6 := (H5.out.step (H5.out.cur.alloc _) ((But.refl B w5).alloc _)).step hC6 hB6
      generalize ([-1, 7, 200, 201] : List Int).getD i 0 = zf at *
      obtain ⟨⟨q0, q1, q2, q3⟩, g0, g1, g2, g3⟩ := box4 h6.bv
      have h7 := h6.setF zf
      clear hC6 hB6 h6 HL HC5 H5
      obtain ⟨⟨z0, z1, z2, z3⟩, f0, f1, f2, f3⟩ := box4 h7.bz
      obtain ⟨⟨v0, v1, v2, v3⟩, -⟩ := box4 h7.bv
      have hbn := box_set (box_set (box_set (box_set h7.bz 0 (.slice aB v.1.length kB)) 1 (.int .i64 zf)) 2 (.slice aL v.2.2.1.length kL)) 3 (.int .i64 v.2.2.2)
      have e0 := box_cell hbn 0
      have e1 := box_cell hbn 1
      have e2 := box_cell hbn 2
      have e3 := box_cell hbn 3
      simp only [List.setIfInBounds_toArray, List.set_cons_zero, List.set_cons_succ, List.getElem?_toArray, List.getElem?_cons_zero, List.getElem?_cons_succ] at e0 e1 e2 e3
      have HF := hid (h7.done (N' := N + 4100) H16.out (fun x hx => sizes8 (v := v) HG.out x hx) HG.out.len HG.out.recs (by omega))
      clear hbn
      simp only at HF
      go_wp2_with fail
      generalize (((((w6.setCell ⟨X, 1, none⟩ (.int .i64 zf)).setCell ⟨w.heap.size, 0, none⟩ (.slice aB v.1.length kB)).setCell ⟨w.heap.size, 1, none⟩ (.int .i64 zf)).setCell ⟨w.heap.size, 2, none⟩ (.slice aL v.2.2.1.length kL)).setCell ⟨w.heap.size, 3, none⟩ (.int .i64 v.2.2.2)) = XX at *
      refine bodyPost_ret (v := .agg #[.slice aB v.1.length kB, .int .i64 zf, .slice aL v.2.2.1.length kL, .int .i64 v.2.2.2]) (by simp [results, Try.results47, go_sem, e0, e1, e2, e3]) rfl ?_
      exact HF.out
    · have b0 : (x == 0) = false := by simp; omega
      have b1 : (x == 1) = false := by simp; omega
      have b2 : (x == 2) = false := by simp; omega
      have H16 := hid (goodBs_len HG.out.bs)
      obtain ⟨⟨z0, z1, z2, z3⟩, f0, f1, f2, f3⟩ := box4 h5.bz
      obtain ⟨⟨v0, v1, v2, v3⟩, -⟩ := box4 h5.bv
      have hbn := box_set (box_set (box_set (box_set h5.bz 0 (.slice aB v.1.length kB)) 1 (.int .i64 v.2.1)) 2 (.slice aL v.2.2.1.length kL)) 3 (.int .i64 v.2.2.2)
      have e0 := box_cell hbn 0
      have e1 := box_cell hbn 1
      have e2 := box_cell hbn 2
      have e3 := box_cell hbn 3
      simp only [List.setIfInBounds_toArray, List.set_cons_zero, List.set_cons_succ, List.getElem?_toArray, List.getElem?_cons_zero, List.getElem?_cons_succ] at e0 e1 e2 e3
      have HF := hid (h5.done (N' := N + 4100) H16.out (sizes8 HG.out) HG.out.len HG.out.recs (by omega))
      clear hbn
      go_wp2_with fail
      generalize ((((w5.setCell ⟨w.heap.size, 0, none⟩ (.slice aB v.1.length kB)).setCell ⟨w.heap.size, 1, none⟩ (.int .i64 v.2.1)).setCell ⟨w.heap.size, 2, none⟩ (.slice aL v.2.2.1.length kL)).setCell ⟨w.heap.size, 3, none⟩ (.int .i64 v.2.2.2)) = XX at *
      refine bodyPost_ret (v := .agg #[.slice aB v.1.length kB, .int .i64 v.2.1, .slice aL v.2.2.1.length kL, .int .i64 v.2.2.2]) (by simp [results, Try.results47, go_sem, e0, e1, e2, e3]) rfl ?_
      exact HF.out
end Go.Proofs.Ytlbhfgcpflhccaa
namespace Go.Proofs.Ytlbhfgcpflhccaa
set_option maxRecDepth 100000
open Go Go.ChangeShapes Go.WideShapes Go.ChangeAt Go.RowKit G00541
/-- a drawn volume, as it is read -/
structure VolR (v : Vol) (aB : Option Addr) (aL : Option Addr) (kL : Nat) (w : World) : Prop where
  n16 : v.1.length = 16
  z8 : ∀ x ∈ v.1, x.size ≤ 8
  n40 : v.2.2.1.length ≤ 40
  good : goodL v.2.2.1 = true
  room : v.2.2.1.length ≤ kL
  ss : Ss w.heap.size aB v.1 w
  rs : Rs w.heap.size aL v.2.2.1 w
theorem VolR.on {v : Vol} {aB : Option Addr} {aL : Option Addr} {kL : Nat} {w w' : World} (h : VolR v aB aL kL w) (g : Below w.heap.size w w') : VolR v aB aL kL w' := ⟨h.n16, h.z8, h.n40, h.good, h.room, (h.ss.below g).mono g.size, (h.rs.below g).mono g.size⟩
set_option maxHeartbeats 1500000 in
theorem drawRecordFor_any (len cap : Nat) (a : Option Addr) (w : World) (hK : Code w.heap.size len cap a w) :
    Calls Try.prog 26 #[.slice a len cap] w fun e w' => ∃ o : Op, e = .returned (oval o) ∧ o.data.size ≤ 9 ∧ Below w.heap.size w w' := by
  have g0 := boxB w (.cells #[.int .i64 0, .int .i64 0, .int .i64 0, .string ⟨#[]⟩, .int .i64 0] 35)
  have k0 := heap_last w (.cells #[.int .i64 0, .int .i64 0, .int .i64 0, .string ⟨#[]⟩, .int .i64 0] 35)
  have z0 := heap_size w (.cells #[.int .i64 0, .int .i64 0, .int .i64 0, .string ⟨#[]⟩, .int .i64 0] 35)
  generalize hW0 : w.alloc (.cells #[.int .i64 0, .int .i64 0, .int .i64 0, .string ⟨#[]⟩, .int .i64 0] 35) = w0 at *
  have hK0 : Code w0.heap.size len cap a w0 := (hK.below g0).mono g0.size
  have HC : Hid (Cur w0.heap.size 0 (.slice a len cap) (w0.alloc (.cells #[.slice a len cap, .int .i64 0, .int .u64 0] 63))) := Cur.start _ _ _
  have HK : Hid (Code w0.heap.size len cap a (w0.alloc (.cells #[.slice a len cap, .int .i64 0, .int .u64 0] 63))) := hK0.start _
  have gC := boxB w0 (.cells #[.slice a len cap, .int .i64 0, .int .u64 0] 63)
  have HG0 := hid g0
  have HX : Hid ((w0.alloc (.cells #[.slice a len cap, .int .i64 0, .int .u64 0] 63)).heap[w.heap.size]? = some (.cells #[.int .i64 0, .int .i64 0, .int .i64 0, .string ⟨#[]⟩, .int .i64 0] 35)) := (gC.block _ (kboxV k0)).trans k0
  have HZ0 := hid z0
  have HD := hid (fun w' (h : But w0.heap.size (w0.alloc (.cells #[.slice a len cap, .int .i64 0, .int .u64 0] 63)) w') => But.done h)
  clear hK hK0 g0 k0 z0 gC
  go_enter Try.func26, Try.ntmps26
  go_wp2_with fail
  clear hW0
  generalize w0.alloc (.cells #[.slice a len cap, .int .i64 0, .int .u64 0] 63) = w1 at *
  refine (volOp_any w0.heap.size 0 len cap a _ (by omega) HC.out HK.out).mono ?_
  rintro e w2 ⟨o, rfl, ho9, hC2, hB2⟩
  have hX2 : w2.heap[w.heap.size]? = some (.cells #[.int .i64 0, .int .i64 0, .int .i64 0, .string ⟨#[]⟩, .int .i64 0] 35) := (hB2.block _ (kboxV HX.out) (by have := HZ0.out; omega)).trans HX.out
  obtain ⟨⟨z0, z1, z2, z3, z4⟩, f0, f1, f2, f3, f4⟩ := box5 hX2
  have hbn := box_set (box_set (box_set (box_set (box_set hX2 0 (.int .i64 o.kind)) 1 (.int .i64 o.place)) 2 (.int .i64 o.long)) 3 (.string o.data)) 4 (.int .i64 o.keep)
  have e0 := box_cell hbn 0
  have e1 := box_cell hbn 1
  have e2 := box_cell hbn 2
  have e3 := box_cell hbn 3
  have e4 := box_cell hbn 4
  simp only [List.setIfInBounds_toArray, List.set_cons_zero, List.set_cons_succ, List.getElem?_toArray, List.getElem?_cons_zero, List.getElem?_cons_succ] at e0 e1 e2 e3 e4
  have hb2 := HG0.out.trans ((HD.out _ hB2).mono HG0.out.size)
  have HB := hid (setB (setB (setB (setB (setB hb2 w.heap.size 0 (Nat.le_refl _) (.int .i64 o.kind)) w.heap.size 1 (Nat.le_refl _) (.int .i64 o.place)) w.heap.size 2 (Nat.le_refl _) (.int .i64 o.long)) w.heap.size 3 (Nat.le_refl _) (.string o.data)) w.heap.size 4 (Nat.le_refl _) (.int .i64 o.keep))
  unfold oval
  clear hb2 hbn hX2 hC2 hB2 HC HK HD HX HG0
  go_wp2_with fail
  generalize (((((w2.setCell ⟨w.heap.size, 0, none⟩ (.int .i64 o.kind)).setCell ⟨w.heap.size, 1, none⟩ (.int .i64 o.place)).setCell ⟨w.heap.size, 2, none⟩ (.int .i64 o.long)).setCell ⟨w.heap.size, 3, none⟩ (.string o.data)).setCell ⟨w.heap.size, 4, none⟩ (.int .i64 o.keep)) = XX at *
  refine bodyPost_ret (v := .agg #[.int .i64 o.kind, .int .i64 o.place, .int .i64 o.long, .string o.data, .int .i64 o.keep]) (by simp [results, Try.results26, go_sem, e0, e1, e2, e3, e4]) rfl ⟨o, rfl, ho9, HB.out⟩
set_option maxHeartbeats 2000000 in
theorem drawReadBlocks_any (len cap : Nat) (a : Option Addr) (w : World) (hK : Code w.heap.size len cap a w) :
    Calls Try.prog 21 #[.slice a len cap] w fun e w' => ∃ (v : Vol) (aB : Option Addr) (kB : Nat) (aL : Option Addr) (kL : Nat) (p n : Int), e = .returned (.tuple #[.agg #[.slice aB v.1.length kB, .int .i64 v.2.1, .slice aL v.2.2.1.length kL, .int .i64 v.2.2.2], .int .i64 p, .int .i64 n]) ∧ -1 ≤ p ∧ p ≤ 17 ∧ 0 ≤ n ∧ n ≤ 6 ∧ VolR v aB aL kL w' ∧ Below w.heap.size w w' := by
  have g0 := boxB w (.cells #[.slice none 0 0, .int .i64 0, .slice none 0 0, .int .i64 0] 28)
  have k0 := heap_last w (.cells #[.slice none 0 0, .int .i64 0, .slice none 0 0, .int .i64 0] 28)
  have z0 := heap_size w (.cells #[.slice none 0 0, .int .i64 0, .slice none 0 0, .int .i64 0] 28)
  generalize hW0 : w.alloc (.cells #[.slice none 0 0, .int .i64 0, .slice none 0 0, .int .i64 0] 28) = w0 at *
  have hK0 : Code w0.heap.size len cap a w0 := (hK.below g0).mono g0.size
  have HC : Hid (Cur w0.heap.size 0 (.slice a len cap) (w0.alloc (.cells #[.slice a len cap, .int .i64 0, .int .u64 0] 63))) := Cur.start _ _ _
  have HK : Hid (Code w0.heap.size len cap a (w0.alloc (.cells #[.slice a len cap, .int .i64 0, .int .u64 0] 63))) := hK0.start _
  have gC := boxB w0 (.cells #[.slice a len cap, .int .i64 0, .int .u64 0] 63)
  have zC := heap_size w0 (.cells #[.slice a len cap, .int .i64 0, .int .u64 0] 63)
  have HG0 := hid g0
  have HX : Hid ((w0.alloc (.cells #[.slice a len cap, .int .i64 0, .int .u64 0] 63)).heap[w.heap.size]? = some (.cells #[.slice none 0 0, .int .i64 0, .slice none 0 0, .int .i64 0] 28)) := (gC.block _ (kboxV k0)).trans k0
  have HZ0 := hid z0
  have HD := hid (fun w' (h : But w0.heap.size (w0.alloc (.cells #[.slice a len cap, .int .i64 0, .int .u64 0] 63)) w') => But.done h)
  clear hK hK0 g0 k0 z0 gC
  go_enter Try.func21, Try.ntmps21
  go_wp2_with fail
  clear hW0
  generalize w0.alloc (.cells #[.slice a len cap, .int .i64 0, .int .u64 0] 63) = w1 at *
  refine (volume_any w0.heap.size 0 len cap a _ (by omega) HC.out HK.out).mono ?_
  rintro e w2 ⟨v, aB, kB, aL, kL, lo, hi, rfl, n16, z8, n40, hgl, hroom, hlo, hhi, hov, hC2, hB2⟩
  have HN := hid (And.intro n16 (And.intro z8 (And.intro n40 (And.intro hgl hroom))))
  have HC2 := hid hC2
  have HB2 := hid hB2
  have HOV := hid hov
  have HK2 : Hid (Code w0.heap.size len cap a w2) := HK.out.but hB2 (Nat.le_refl _) (by omega)
  have hs2 := hB2.size
  clear n16 z8 n40 hgl hroom hC2 hB2 hov HC HK
  go_wp2_with fail
  refine (pick_any 18 w0.heap.size _ len cap a _ (by omega) (by omega) (by omega) HC2.out HK2.out).mono ?_
  rintro e w3 ⟨p, rfl, p0, p1, hC3, hB3⟩
  have HC3 := hid hC3
  have HB3 := hid (HB2.out.trans hB3)
  have HOV : Hid (OwnV lo hi aB v.1 aL v.2.2.1 w3) := HOV.out.same hB3.size (fun k h1 h2 => hB3.block k (by omega) (by omega))
  have HK3 : Hid (Code w0.heap.size len cap a w3) := HK2.out.but hB3 (Nat.le_refl _) (by omega)
  have hs3 := hB3.size
  clear hC3 hB3 HC2 HB2 HK2
  go_wp2_with fail
  refine (pick_any 6 w0.heap.size _ len cap a _ (by omega) (by omega) (by omega) HC3.out HK3.out).mono ?_
  rintro e w4 ⟨q, rfl, q0, q1, hC4, hB4⟩
  have hB4' := HB3.out.trans hB4
  have hov4 : OwnV lo hi aB v.1 aL v.2.2.1 w4 := HOV.out.same hB4.size (fun k h1 h2 => hB4.block k (by omega) (by omega))
  have hs4 := hB4.size
  have hX4 : w4.heap[w.heap.size]? = some (.cells #[.slice none 0 0, .int .i64 0, .slice none 0 0, .int .i64 0] 28) := (hB4'.block _ (kboxV HX.out) (by have := HZ0.out; omega)).trans HX.out
  obtain ⟨⟨z0, z1, z2, z3⟩, f0, f1, f2, f3⟩ := box4 hX4
  have hbn := box_set (box_set (box_set (box_set hX4 0 (.slice aB v.1.length kB)) 1 (.int .i64 v.2.1)) 2 (.slice aL v.2.2.1.length kL)) 3 (.int .i64 v.2.2.2)
  have e0 := box_cell hbn 0
  have e1 := box_cell hbn 1
  have e2 := box_cell hbn 2
  have e3 := box_cell hbn 3
  simp only [List.setIfInBounds_toArray, List.set_cons_zero, List.set_cons_succ, List.getElem?_toArray, List.getElem?_cons_zero, List.getElem?_cons_succ] at e0 e1 e2 e3
  have hb4 := HG0.out.trans ((HD.out _ hB4').mono HG0.out.size)
  have HB := hid (setB (setB (setB (setB hb4 w.heap.size 0 (Nat.le_refl _) (.slice aB v.1.length kB)) w.heap.size 1 (Nat.le_refl _) (.int .i64 v.2.1)) w.heap.size 2 (Nat.le_refl _) (.slice aL v.2.2.1.length kL)) w.heap.size 3 (Nat.le_refl _) (.int .i64 v.2.2.2))
  have HV : Hid (VolR v aB aL kL ((((w4.setCell ⟨w.heap.size, 0, none⟩ (.slice aB v.1.length kB)).setCell ⟨w.heap.size, 1, none⟩ (.int .i64 v.2.1)).setCell ⟨w.heap.size, 2, none⟩ (.slice aL v.2.2.1.length kL)).setCell ⟨w.heap.size, 3, none⟩ (.int .i64 v.2.2.2))) := by
    have hk : ∀ k, k ≠ w.heap.size → ((((w4.setCell ⟨w.heap.size, 0, none⟩ (.slice aB v.1.length kB)).setCell ⟨w.heap.size, 1, none⟩ (.int .i64 v.2.1)).setCell ⟨w.heap.size, 2, none⟩ (.slice aL v.2.2.1.length kL)).setCell ⟨w.heap.size, 3, none⟩ (.int .i64 v.2.2.2)).heap[k]? = w4.heap[k]? := fun k h1 => by
      rw [keepB _ _ _ _ _ h1, keepB _ _ _ _ _ h1, keepB _ _ _ _ _ h1, keepB _ _ _ _ _ h1]
    have hz : ((((w4.setCell ⟨w.heap.size, 0, none⟩ (.slice aB v.1.length kB)).setCell ⟨w.heap.size, 1, none⟩ (.int .i64 v.2.1)).setCell ⟨w.heap.size, 2, none⟩ (.slice aL v.2.2.1.length kL)).setCell ⟨w.heap.size, 3, none⟩ (.int .i64 v.2.2.2)).heap.size = w4.heap.size := by simp [World.setCell]
    have ho := hov4.same (w' := (((w4.setCell ⟨w.heap.size, 0, none⟩ (.slice aB v.1.length kB)).setCell ⟨w.heap.size, 1, none⟩ (.int .i64 v.2.1)).setCell ⟨w.heap.size, 2, none⟩ (.slice aL v.2.2.1.length kL)).setCell ⟨w.heap.size, 3, none⟩ (.int .i64 v.2.2.2)) (by omega) (fun k h1 h2 => hk k (by have := HZ0.out; omega))
    obtain ⟨n16, z8, n40, hgl, hroom⟩ := HN.out
    exact ⟨n16, z8, n40, hgl, hroom, ho.read.1, ho.read.2⟩
  clear hb4 hbn hX4 hC4 hB4 hB4' hov4 HOV HC3 HB3 HK3 HD HX HG0
  go_wp2_with fail
  generalize ((((w4.setCell ⟨w.heap.size, 0, none⟩ (.slice aB v.1.length kB)).setCell ⟨w.heap.size, 1, none⟩ (.int .i64 v.2.1)).setCell ⟨w.heap.size, 2, none⟩ (.slice aL v.2.2.1.length kL)).setCell ⟨w.heap.size, 3, none⟩ (.int .i64 v.2.2.2)) = XX at *
  refine bodyPost_ret (v := .tuple #[.agg #[.slice aB v.1.length kB, .int .i64 v.2.1, .slice aL v.2.2.1.length kL, .int .i64 v.2.2.2], .int .i64 (p - 1), .int .i64 q]) (by simp [results, Try.results21, go_sem, e0, e1, e2, e3]) rfl ⟨v, aB, kB, aL, kL, p - 1, q, rfl, by omega, by omega, q0, by omega, HV.out, HB.out⟩
end Go.Proofs.Ytlbhfgcpflhccaa
namespace Go.Proofs.Ytlbhfgcpflhccaa
set_option maxRecDepth 100000
open Go Go.ChangeShapes Go.WideShapes Go.ChangeAt Go.RowKit G00541
set_option maxHeartbeats 2500000 in
theorem drawDoVolume_any (len cap : Nat) (a : Option Addr) (w : World) (hK : Code w.heap.size len cap a w) :
    Calls Try.prog 18 #[.slice a len cap] w fun e w' => ∃ (v : Vol) (aB : Option Addr) (kB : Nat) (aL : Option Addr) (kL : Nat) (o : Op), e = .returned (.tuple #[.agg #[.slice aB v.1.length kB, .int .i64 v.2.1, .slice aL v.2.2.1.length kL, .int .i64 v.2.2.2], oval o]) ∧ o.data.size ≤ 9 ∧ VolR v aB aL kL w' ∧ Below w.heap.size w w' := by
  have g0 := boxB w (.cells #[.slice none 0 0, .int .i64 0, .slice none 0 0, .int .i64 0] 28)
  have k0 := heap_last w (.cells #[.slice none 0 0, .int .i64 0, .slice none 0 0, .int .i64 0] 28)
  have z0 := heap_size w (.cells #[.slice none 0 0, .int .i64 0, .slice none 0 0, .int .i64 0] 28)
  have g1 := boxB (w.alloc (.cells #[.slice none 0 0, .int .i64 0, .slice none 0 0, .int .i64 0] 28)) (.cells #[.int .i64 0, .int .i64 0, .int .i64 0, .string ⟨#[]⟩, .int .i64 0] 35)
  have k1 := heap_last (w.alloc (.cells #[.slice none 0 0, .int .i64 0, .slice none 0 0, .int .i64 0] 28)) (.cells #[.int .i64 0, .int .i64 0, .int .i64 0, .string ⟨#[]⟩, .int .i64 0] 35)
  have z1 := heap_size (w.alloc (.cells #[.slice none 0 0, .int .i64 0, .slice none 0 0, .int .i64 0] 28)) (.cells #[.int .i64 0, .int .i64 0, .int .i64 0, .string ⟨#[]⟩, .int .i64 0] 35)
  have k01 := (g1.block _ (kboxV k0)).trans k0
  rw [z0] at k1 z1
  have g01 := g0.trans (g1.mono g0.size)
  clear g0 g1 k0 z0
  generalize hW0 : (w.alloc (.cells #[.slice none 0 0, .int .i64 0, .slice none 0 0, .int .i64 0] 28)).alloc (.cells #[.int .i64 0, .int .i64 0, .int .i64 0, .string ⟨#[]⟩, .int .i64 0] 35) = w0 at *
  have hK0 : Code w0.heap.size len cap a w0 := (hK.below g01).mono g01.size
  have HC : Hid (Cur w0.heap.size 0 (.slice a len cap) (w0.alloc (.cells #[.slice a len cap, .int .i64 0, .int .u64 0] 63))) := Cur.start _ _ _
  have HK : Hid (Code w0.heap.size len cap a (w0.alloc (.cells #[.slice a len cap, .int .i64 0, .int .u64 0] 63))) := hK0.start _
  have gC := boxB w0 (.cells #[.slice a len cap, .int .i64 0, .int .u64 0] 63)
  have zC := heap_size w0 (.cells #[.slice a len cap, .int .i64 0, .int .u64 0] 63)
  have HG0 := hid g01
  have HX : Hid ((w0.alloc (.cells #[.slice a len cap, .int .i64 0, .int .u64 0] 63)).heap[w.heap.size]? = some (.cells #[.slice none 0 0, .int .i64 0, .slice none 0 0, .int .i64 0] 28)) := (gC.block _ (kboxV k01)).trans k01
  have HY : Hid ((w0.alloc (.cells #[.slice a len cap, .int .i64 0, .int .u64 0] 63)).heap[w.heap.size + 1]? = some (.cells #[.int .i64 0, .int .i64 0, .int .i64 0, .string ⟨#[]⟩, .int .i64 0] 35)) := (gC.block _ (kboxV k1)).trans k1
  have HZ0 := hid z1
  have HD := hid (fun w' (h : But w0.heap.size (w0.alloc (.cells #[.slice a len cap, .int .i64 0, .int .u64 0] 63)) w') => But.done h)
  clear hK hK0 g01 k01 k1 z1 gC
  go_enter Try.func18, Try.ntmps18
  go_wp2_with fail
  clear hW0
  generalize w0.alloc (.cells #[.slice a len cap, .int .i64 0, .int .u64 0] 63) = w1 at *
  refine (volume_any w0.heap.size 0 len cap a _ (by omega) HC.out HK.out).mono ?_
  rintro e w2 ⟨v, aB, kB, aL, kL, lo, hi, rfl, n16, z8, n40, hgl, hroom, hlo, hhi, hov, hC2, hB2⟩
  have HN := hid (And.intro n16 (And.intro z8 (And.intro n40 (And.intro hgl hroom))))
  have HC2 := hid hC2
  have HB2 := hid hB2
  have HOV := hid hov
  have HK2 : Hid (Code w0.heap.size len cap a w2) := HK.out.but hB2 (Nat.le_refl _) (by omega)
  have hs2 := hB2.size
  clear n16 z8 n40 hgl hroom hC2 hB2 hov HC HK
  go_wp2_with fail
  refine (volOp_any w0.heap.size _ len cap a _ (by omega) HC2.out HK2.out).mono ?_
  rintro e w3 ⟨o, rfl, ho9, hC3, hB3⟩
  have hB3' := HB2.out.trans hB3
  have hov3 : OwnV lo hi aB v.1 aL v.2.2.1 w3 := HOV.out.same hB3.size (fun k h1 h2 => hB3.block k (by omega) (by omega))
  have hs3 := hB3.size
  have hz0 := HZ0.out
  have hX3 : w3.heap[w.heap.size]? = some (.cells #[.slice none 0 0, .int .i64 0, .slice none 0 0, .int .i64 0] 28) := (hB3'.block _ (kboxV HX.out) (by omega)).trans HX.out
  have hY3 : w3.heap[w.heap.size + 1]? = some (.cells #[.int .i64 0, .int .i64 0, .int .i64 0, .string ⟨#[]⟩, .int .i64 0] 35) := (hB3'.block _ (kboxV HY.out) (by omega)).trans HY.out
  obtain ⟨⟨z0, z1, z2, z3⟩, f0, f1, f2, f3⟩ := box4 hX3
  obtain ⟨⟨y0, y1, y2, y3, y4⟩, j0, j1, j2, j3, j4⟩ := box5 hY3
  have hbn := box_set (box_set (box_set (box_set hX3 0 (.slice aB v.1.length kB)) 1 (.int .i64 v.2.1)) 2 (.slice aL v.2.2.1.length kL)) 3 (.int .i64 v.2.2.2)
  have hbn' : (((((((((w3.setCell ⟨w.heap.size, 0, none⟩ (.slice aB v.1.length kB)).setCell ⟨w.heap.size, 1, none⟩ (.int .i64 v.2.1)).setCell ⟨w.heap.size, 2, none⟩ (.slice aL v.2.2.1.length kL)).setCell ⟨w.heap.size, 3, none⟩ (.int .i64 v.2.2.2)).setCell ⟨w.heap.size + 1, 0, none⟩ (.int .i64 o.kind)).setCell ⟨w.heap.size + 1, 1, none⟩ (.int .i64 o.place)).setCell ⟨w.heap.size + 1, 2, none⟩ (.int .i64 o.long)).setCell ⟨w.heap.size + 1, 3, none⟩ (.string o.data)).setCell ⟨w.heap.size + 1, 4, none⟩ (.int .i64 o.keep)).heap[w.heap.size]? = some (.cells #[.slice aB v.1.length kB, .int .i64 v.2.1, .slice aL v.2.2.1.length kL, .int .i64 v.2.2.2] 28) := by
    rw [keepB _ _ _ _ _ (by omega), keepB _ _ _ _ _ (by omega), keepB _ _ _ _ _ (by omega), keepB _ _ _ _ _ (by omega), keepB _ _ _ _ _ (by omega)]
    simpa using hbn
  have hy0 : ((((w3.setCell ⟨w.heap.size, 0, none⟩ (.slice aB v.1.length kB)).setCell ⟨w.heap.size, 1, none⟩ (.int .i64 v.2.1)).setCell ⟨w.heap.size, 2, none⟩ (.slice aL v.2.2.1.length kL)).setCell ⟨w.heap.size, 3, none⟩ (.int .i64 v.2.2.2)).heap[w.heap.size + 1]? = some (.cells #[.int .i64 0, .int .i64 0, .int .i64 0, .string ⟨#[]⟩, .int .i64 0] 35) := by
    rw [keepB _ _ _ _ _ (by omega), keepB _ _ _ _ _ (by omega), keepB _ _ _ _ _ (by omega), keepB _ _ _ _ _ (by omega)]
    exact hY3
  have hyn := box_set (box_set (box_set (box_set (box_set hy0 0 (.int .i64 o.kind)) 1 (.int .i64 o.place)) 2 (.int .i64 o.long)) 3 (.string o.data)) 4 (.int .i64 o.keep)
  obtain ⟨⟨e0, e1, e2, e3⟩, -⟩ := box4 hbn'
  have i0 := box_cell hyn 0
  have i1 := box_cell hyn 1
  have i2 := box_cell hyn 2
  have i3 := box_cell hyn 3
  have i4 := box_cell hyn 4
  simp only [List.setIfInBounds_toArray, List.set_cons_zero, List.set_cons_succ, List.getElem?_toArray, List.getElem?_cons_zero, List.getElem?_cons_succ] at i0 i1 i2 i3 i4
  have hb3 := HG0.out.trans ((HD.out _ hB3').mono HG0.out.size)
  have hb4 := setB (setB (setB (setB hb3 w.heap.size 0 (Nat.le_refl _) (.slice aB v.1.length kB)) w.heap.size 1 (Nat.le_refl _) (.int .i64 v.2.1)) w.heap.size 2 (Nat.le_refl _) (.slice aL v.2.2.1.length kL)) w.heap.size 3 (Nat.le_refl _) (.int .i64 v.2.2.2)
  have HB := hid (setB (setB (setB (setB (setB hb4 (w.heap.size + 1) 0 (by omega) (.int .i64 o.kind)) (w.heap.size + 1) 1 (by omega) (.int .i64 o.place)) (w.heap.size + 1) 2 (by omega) (.int .i64 o.long)) (w.heap.size + 1) 3 (by omega) (.string o.data)) (w.heap.size + 1) 4 (by omega) (.int .i64 o.keep))
  have HV : Hid (VolR v aB aL kL (((((((((w3.setCell ⟨w.heap.size, 0, none⟩ (.slice aB v.1.length kB)).setCell ⟨w.heap.size, 1, none⟩ (.int .i64 v.2.1)).setCell ⟨w.heap.size, 2, none⟩ (.slice aL v.2.2.1.length kL)).setCell ⟨w.heap.size, 3, none⟩ (.int .i64 v.2.2.2)).setCell ⟨w.heap.size + 1, 0, none⟩ (.int .i64 o.kind)).setCell ⟨w.heap.size + 1, 1, none⟩ (.int .i64 o.place)).setCell ⟨w.heap.size + 1, 2, none⟩ (.int .i64 o.long)).setCell ⟨w.heap.size + 1, 3, none⟩ (.string o.data)).setCell ⟨w.heap.size + 1, 4, none⟩ (.int .i64 o.keep))) := by
    have hk : ∀ k, w.heap.size + 1 < k → (((((((((w3.setCell ⟨w.heap.size, 0, none⟩ (.slice aB v.1.length kB)).setCell ⟨w.heap.size, 1, none⟩ (.int .i64 v.2.1)).setCell ⟨w.heap.size, 2, none⟩ (.slice aL v.2.2.1.length kL)).setCell ⟨w.heap.size, 3, none⟩ (.int .i64 v.2.2.2)).setCell ⟨w.heap.size + 1, 0, none⟩ (.int .i64 o.kind)).setCell ⟨w.heap.size + 1, 1, none⟩ (.int .i64 o.place)).setCell ⟨w.heap.size + 1, 2, none⟩ (.int .i64 o.long)).setCell ⟨w.heap.size + 1, 3, none⟩ (.string o.data)).setCell ⟨w.heap.size + 1, 4, none⟩ (.int .i64 o.keep)).heap[k]? = w3.heap[k]? := fun k h1 => by
      rw [keepB _ _ _ _ _ (by omega), keepB _ _ _ _ _ (by omega), keepB _ _ _ _ _ (by omega), keepB _ _ _ _ _ (by omega), keepB _ _ _ _ _ (by omega), keepB _ _ _ _ _ (by omega), keepB _ _ _ _ _ (by omega), keepB _ _ _ _ _ (by omega), keepB _ _ _ _ _ (by omega)]
    have hz : (((((((((w3.setCell ⟨w.heap.size, 0, none⟩ (.slice aB v.1.length kB)).setCell ⟨w.heap.size, 1, none⟩ (.int .i64 v.2.1)).setCell ⟨w.heap.size, 2, none⟩ (.slice aL v.2.2.1.length kL)).setCell ⟨w.heap.size, 3, none⟩ (.int .i64 v.2.2.2)).setCell ⟨w.heap.size + 1, 0, none⟩ (.int .i64 o.kind)).setCell ⟨w.heap.size + 1, 1, none⟩ (.int .i64 o.place)).setCell ⟨w.heap.size + 1, 2, none⟩ (.int .i64 o.long)).setCell ⟨w.heap.size + 1, 3, none⟩ (.string o.data)).setCell ⟨w.heap.size + 1, 4, none⟩ (.int .i64 o.keep)).heap.size = w3.heap.size := by simp [World.setCell]
    have ho := hov3.same (w' := ((((((((w3.setCell ⟨w.heap.size, 0, none⟩ (.slice aB v.1.length kB)).setCell ⟨w.heap.size, 1, none⟩ (.int .i64 v.2.1)).setCell ⟨w.heap.size, 2, none⟩ (.slice aL v.2.2.1.length kL)).setCell ⟨w.heap.size, 3, none⟩ (.int .i64 v.2.2.2)).setCell ⟨w.heap.size + 1, 0, none⟩ (.int .i64 o.kind)).setCell ⟨w.heap.size + 1, 1, none⟩ (.int .i64 o.place)).setCell ⟨w.heap.size + 1, 2, none⟩ (.int .i64 o.long)).setCell ⟨w.heap.size + 1, 3, none⟩ (.string o.data)).setCell ⟨w.heap.size + 1, 4, none⟩ (.int .i64 o.keep)) (by omega) (fun k h1 h2 => hk k (by omega))
    obtain ⟨n16, z8, n40, hgl, hroom⟩ := HN.out
    exact ⟨n16, z8, n40, hgl, hroom, ho.read.1, ho.read.2⟩
  unfold oval
  clear hb3 hb4 hbn hbn' hy0 hyn hX3 hY3 hC3 hB3 hB3' hov3 HOV HC2 HB2 HK2 HD HX HY HG0 hz0
  go_wp2_with fail
  generalize (((((((((w3.setCell ⟨w.heap.size, 0, none⟩ (.slice aB v.1.length kB)).setCell ⟨w.heap.size, 1, none⟩ (.int .i64 v.2.1)).setCell ⟨w.heap.size, 2, none⟩ (.slice aL v.2.2.1.length kL)).setCell ⟨w.heap.size, 3, none⟩ (.int .i64 v.2.2.2)).setCell ⟨w.heap.size + 1, 0, none⟩ (.int .i64 o.kind)).setCell ⟨w.heap.size + 1, 1, none⟩ (.int .i64 o.place)).setCell ⟨w.heap.size + 1, 2, none⟩ (.int .i64 o.long)).setCell ⟨w.heap.size + 1, 3, none⟩ (.string o.data)).setCell ⟨w.heap.size + 1, 4, none⟩ (.int .i64 o.keep)) = XX at *
  refine bodyPost_ret (v := .tuple #[.agg #[.slice aB v.1.length kB, .int .i64 v.2.1, .slice aL v.2.2.1.length kL, .int .i64 v.2.2.2], .agg #[.int .i64 o.kind, .int .i64 o.place, .int .i64 o.long, .string o.data, .int .i64 o.keep]]) (by simp [results, Try.results18, go_sem, e0, e1, e2, e3, i0, i1, i2, i3, i4]) rfl ⟨v, aB, kB, aL, kL, o, rfl, ho9, HV.out, HB.out⟩
end Go.Proofs.Ytlbhfgcpflhccaa
namespace Go.Proofs.Ytlbhfgcpflhccaa
set_option maxRecDepth 100000
open Go Go.ChangeShapes Go.WideShapes Go.ChangeAt Go.RowKit G00541
set_option maxHeartbeats 1000000 in
theorem sameTexts_same (a1 a2 : Option Addr) (c1 c2 : Nat) (l : List ByteArray) (w : World) (hn : l.length ≤ 1048576) (h1 : Ss w.heap.size a1 l w) (h2 : Ss w.heap.size a2 l w) :
    Calls Try.prog 14 #[.slice a1 l.length c1, .slice a2 l.length c2] w fun e w' => e = .returned (.bool true) ∧ Below w.heap.size w w' := by
  have H1 : Hid (Ss w.heap.size a1 l w) := h1
  have H2 : Hid (Ss w.heap.size a2 l w) := h2
  clear h1 h2
  go_enter Try.func14, Try.ntmps14
  go_wp2
  go_loopw [13] (fun i wr => ∃ k : Nat, k ≤ l.length ∧ i = .int .i64 k ∧ Below w.heap.size w wr) (fun i _ => l.length - (intOf i).toNat)
  case atStart => exact ⟨0, Nat.zero_le _, rfl, Below.refl _ _⟩
  case round =>
    obtain ⟨k, hk, rfl, hbel⟩ := hrel
    have HBEL : Hid (Below w.heap.size w wr) := hbel
    by_cases hlt : k < l.length
    · obtain ⟨b1, o1, rfl, hb1, hc1⟩ := H1.out.cell (by omega)
      obtain ⟨b2, o2, rfl, hb2, hc2⟩ := H2.out.cell (by omega)
      have x0 := (hbel.cell (p := ⟨b1, o1 + k, none⟩) hb1).trans (hc1 k hlt)
      have y0 := (hbel.cell (p := ⟨b2, o2 + k, none⟩) hb2).trans (hc2 k hlt)
      clear hc1 hc2 hbel
      generalize l[k] = n at *
      go_wp2
      go_region
      all_goals
        go_wp2
        go_roundw
        · exact ⟨k + 1, by omega, by go_num, HBEL.out.drew⟩
        · simp [intOf]; omega
    · clear hbel
      go_wp2
      go_ret
      exact ⟨rfl, HBEL.out⟩
set_option maxHeartbeats 2000000 in
theorem sameRecords_same (a1 a2 : Option Addr) (c1 c2 : Nat) (l : List Rc) (w : World) (hn : l.length ≤ 1048576) (h1 : Rs w.heap.size a1 l w) (h2 : Rs w.heap.size a2 l w) :
    Calls Try.prog 15 #[.slice a1 l.length c1, .slice a2 l.length c2] w fun e w' => e = .returned (.bool true) ∧ Below w.heap.size w w' := by
  have H1 : Hid (Rs w.heap.size a1 l w) := h1
  have H2 : Hid (Rs w.heap.size a2 l w) := h2
  clear h1 h2
  go_enter Try.func15, Try.ntmps15
  go_wp2
  go_loopw [13] (fun i wr => ∃ k : Nat, k ≤ l.length ∧ i = .int .i64 k ∧ Below w.heap.size w wr) (fun i _ => l.length - (intOf i).toNat)
  case atStart => exact ⟨0, Nat.zero_le _, rfl, Below.refl _ _⟩
  case round =>
    obtain ⟨k, hk, rfl, hbel⟩ := hrel
    have HBEL : Hid (Below w.heap.size w wr) := hbel
    by_cases hlt : k < l.length
    · obtain ⟨b1, o1, rfl, hb1, hc1⟩ := H1.out.cell (by omega)
      obtain ⟨b2, o2, rfl, hb2, hc2⟩ := H2.out.cell (by omega)
      obtain ⟨x0, x1, x2, x3⟩ := hc1 k hlt
      obtain ⟨y0, y1, y2, y3⟩ := hc2 k hlt
      have hb1' : ∀ o, wr.cell? ⟨b1, o, none⟩ = w.cell? ⟨b1, o, none⟩ := fun o => hbel.cell (p := ⟨b1, o, none⟩) hb1
      have hb2' : ∀ o, wr.cell? ⟨b2, o, none⟩ = w.cell? ⟨b2, o, none⟩ := fun o => hbel.cell (p := ⟨b2, o, none⟩) hb2
      rw [← hb1'] at x0 x1 x2 x3
      rw [← hb2'] at y0 y1 y2 y3
      clear hc1 hc2 hb1' hb2' hbel
      generalize l[k].kind = rk at *
      generalize l[k].place = rp at *
      generalize l[k].long = rn at *
      generalize str l[k].data = rd at *
      go_wp2
      go_region
      all_goals
        go_wp2
        go_roundw
        · exact ⟨k + 1, by omega, by go_num, HBEL.out.drew⟩
        · simp [intOf]; omega
    · clear hbel
      go_wp2
      go_ret
      exact ⟨rfl, HBEL.out⟩
end Go.Proofs.Ytlbhfgcpflhccaa
namespace Go.Proofs.Ytlbhfgcpflhccaa
set_option maxRecDepth 100000
open Go.ChangeShapes Go.WideShapes Go.ChangeAt Go.RowKit G00541
set_option maxHeartbeats 2000000 in
theorem idoV_bad (aB aL : Option Addr) (kB kL : Nat) (B : List ByteArray) (F : Int) (L : List Rc) (s : Int) (k p n m : Int) (D : ByteArray) (w : World) (hf : B.length ≤ 1048576 ∧ L.length ≤ 1048576) (hB : Ss w.heap.size aB B w) (hL : Rs w.heap.size aL L w)
    (hg : goodV B F L s = false) : Calls Try.prog 16 #[.agg #[.slice aB B.length kB, .int .i64 F, .slice aL L.length kL, .int .i64 s], .agg #[.int .i64 k, .int .i64 p, .int .i64 n, .string D, .int .i64 m]] w fun e w' => DOut none w e w' := by
  have HK := hid (DK.start w #[.slice aB B.length kB, .int .i64 F, .slice aL L.length kL, .int .i64 s] #[.int .i64 k, .int .i64 p, .int .i64 n, .string D, .int .i64 m] #[.slice none 0 0, .int .i64 0, .slice none 0 0, .int .i64 0])
  have HG : Hid (∀ v, Below w.heap.size w v → Calls Try.prog 13 #[.agg #[.slice aB B.length kB, .int .i64 F, .slice aL L.length kL, .int .i64 s]] v fun e w' => e = .returned (.bool false) ∧ Below v.heap.size v w') := fun v g => by
    have := igoodV_any aB aL kB kL B F L s v hf ((hB.below g).mono g.size) ((hL.below g).mono g.size)
    rw [hg] at this
    exact this
  clear hB hL hf hg
  generalize hW : (((w.alloc (.cells #[.slice aB B.length kB, .int .i64 F, .slice aL L.length kL, .int .i64 s] 28)).alloc (.cells #[.int .i64 k, .int .i64 p, .int .i64 n, .string D, .int .i64 m] 35)).alloc (.cells #[.slice none 0 0, .int .i64 0, .slice none 0 0, .int .i64 0] 28)) = W at *
  obtain ⟨x0, x1, x2, x3⟩ := HK.out.vol
  go_enter Try.func16, Try.ntmps16
  go_wp2_with fail
  clear hW
  refine (HG.out _ HK.out.below).mono ?_
  rintro e w2 ⟨rfl, b2⟩
  have HK2 := hid (HK.out.on b2)
  clear b2 HK HG x0 x1 x2 x3
  have hKz := HK2.out.fill (.slice none 0 0) (.int .i64 0) (.slice none 0 0) (.int .i64 0)
  have ez0 : ((((w2.setCell ⟨w.heap.size + 1 + 1, 0, none⟩ (.slice none 0 0)).setCell ⟨w.heap.size + 1 + 1, 1, none⟩ (.int .i64 0)).setCell ⟨w.heap.size + 1 + 1, 2, none⟩ (.slice none 0 0)).setCell ⟨w.heap.size + 1 + 1, 3, none⟩ (.int .i64 0)).cell? ⟨w.heap.size + 1 + 1, 0, none⟩ = some (.slice none 0 0) := box_cell hKz.z 0
  have ez1 : ((((w2.setCell ⟨w.heap.size + 1 + 1, 0, none⟩ (.slice none 0 0)).setCell ⟨w.heap.size + 1 + 1, 1, none⟩ (.int .i64 0)).setCell ⟨w.heap.size + 1 + 1, 2, none⟩ (.slice none 0 0)).setCell ⟨w.heap.size + 1 + 1, 3, none⟩ (.int .i64 0)).cell? ⟨w.heap.size + 1 + 1, 1, none⟩ = some (.int .i64 0) := box_cell hKz.z 1
  have ez2 : ((((w2.setCell ⟨w.heap.size + 1 + 1, 0, none⟩ (.slice none 0 0)).setCell ⟨w.heap.size + 1 + 1, 1, none⟩ (.int .i64 0)).setCell ⟨w.heap.size + 1 + 1, 2, none⟩ (.slice none 0 0)).setCell ⟨w.heap.size + 1 + 1, 3, none⟩ (.int .i64 0)).cell? ⟨w.heap.size + 1 + 1, 2, none⟩ = some (.slice none 0 0) := box_cell hKz.z 2
  have ez3 : ((((w2.setCell ⟨w.heap.size + 1 + 1, 0, none⟩ (.slice none 0 0)).setCell ⟨w.heap.size + 1 + 1, 1, none⟩ (.int .i64 0)).setCell ⟨w.heap.size + 1 + 1, 2, none⟩ (.slice none 0 0)).setCell ⟨w.heap.size + 1 + 1, 3, none⟩ (.int .i64 0)).cell? ⟨w.heap.size + 1 + 1, 3, none⟩ = some (.int .i64 0) := box_cell hKz.z 3
  have HBz := hid hKz.below
  obtain ⟨⟨z0, z1, z2, z3⟩, f0, f1, f2, f3⟩ := HK2.out.cells
  clear hKz
  go_wp2_with fail
  generalize ((((w2.setCell ⟨w.heap.size + 1 + 1, 0, none⟩ (.slice none 0 0)).setCell ⟨w.heap.size + 1 + 1, 1, none⟩ (.int .i64 0)).setCell ⟨w.heap.size + 1 + 1, 2, none⟩ (.slice none 0 0)).setCell ⟨w.heap.size + 1 + 1, 3, none⟩ (.int .i64 0)) = XX at *
  refine bodyPost_ret (v := .tuple #[.agg #[.slice none 0 0, .int .i64 0, .slice none 0 0, .int .i64 0], .bool false]) (by simp [results, Try.results16, go_sem, ez0, ez1, ez2, ez3]) rfl ?_
  exact ⟨rfl, HBz.out⟩
theorem doV_small {B : List ByteArray} {F : Int} {L : List Rc} {s : Int} {o : Op} {v : Vol} (hg : GoodV B F L s) (h : doV B F L s o = some v) : v.1.length = 16 ∧ v.2.2.1.length ≤ 41 := by
  have h16 := goodBs_len hg.bs
  have h40 := hg.len
  unfold doV at h
  split at h
  · unfold recDo at h
    split at h
    · injection h with h; subst h; exact ⟨h16, by simp; omega⟩
    · cases h
  · split at h
    · split at h
      · injection h with h; subst h; exact ⟨h16, by simp only; omega⟩
      · split at h
        · unfold crashDo at h
          split at h
          · injection h with h; subst h; exact ⟨h16, by simp only [List.length_take]; omega⟩
          · cases h
        · split at h
          · unfold foldDo at h
            injection h with h; subst h; exact ⟨by simp only [doL_len]; exact h16, by simp only [List.length_drop]; omega⟩
          · cases h
    · cases h
theorem goDo_small {B : List ByteArray} {F : Int} {L : List Rc} {s : Int} {o : Op} {v : Vol} (h : goDo B F L s o = some v) : v.1.length ≤ 9999 ∧ v.2.2.1.length ≤ 9999 := by
  unfold goDo at h
  split at h
  · rename_i hg
    have := doV_small (goodV_iff.1 hg) h
    omega
  · cases h
theorem sdo_any (aB aL : Option Addr) (kB kL : Nat) (B : List ByteArray) (F : Int) (L : List Rc) (s : Int) (k p n m : Int) (D : ByteArray) (w : World) (hf : B.length ≤ 1048576 ∧ L.length ≤ 1048576) (hB : Ss w.heap.size aB B w) (hL : Rs w.heap.size aL L w) :
    Calls Try.prog 19 #[.agg #[.slice aB B.length kB, .int .i64 F, .slice aL L.length kL, .int .i64 s], .agg #[.int .i64 k, .int .i64 p, .int .i64 n, .string D, .int .i64 m]] w fun e w' => DOut (goDo B F L s ⟨k, p, n, D, m⟩) w e w' := by
  cases hg : goodV B F L s
  · rw [goDo_no hg]
    exact sdoV_bad aB aL kB kL B F L s k p n m D w hf hB hL hg
  · rw [goDo_yes hg]
    cases hd : doV B F L s ⟨k, p, n, D, m⟩ with
    | none => exact sdoV_none aB aL kB kL B F L s k p n m D w hf hB hL hg hd
    | some v =>
      obtain ⟨B9, v1, L9, v3⟩ := v
      have h9 := doV_small (goodV_iff.1 hg) hd
      simp only at h9
      exact sdoV_some aB aL kB kL B F L s k p n m D B9 v1 L9 v3 w hf hB hL hg hd ⟨by omega, by omega⟩
theorem ido_any (aB aL : Option Addr) (kB kL : Nat) (B : List ByteArray) (F : Int) (L : List Rc) (s : Int) (k p n m : Int) (D : ByteArray) (w : World) (hf : B.length ≤ 1048576 ∧ L.length ≤ 1048576) (hk : L.length ≤ kL) (hB : Ss w.heap.size aB B w) (hL : Rs w.heap.size aL L w) :
    Calls Try.prog 16 #[.agg #[.slice aB B.length kB, .int .i64 F, .slice aL L.length kL, .int .i64 s], .agg #[.int .i64 k, .int .i64 p, .int .i64 n, .string D, .int .i64 m]] w fun e w' => DOut (goDo B F L s ⟨k, p, n, D, m⟩) w e w' := by
  cases hg : goodV B F L s
  · rw [goDo_no hg]
    exact idoV_bad aB aL kB kL B F L s k p n m D w hf hB hL hg
  · rw [goDo_yes hg]
    exact idoV_any aB aL kB kL B F L s k p n m D w hf hk hB hL (goodV_iff.1 hg)
/-- what is told: a volume and whether it is one -/
def volOf (o : Option Vol) : Vol := o.getD ([], 0, [], 0)
theorem DOut.tells {o : Option Vol} {w : World} {e : Ending} {w' : World} (h : DOut o w e w') : ∃ b c d f, e = .returned (.tuple #[.agg #[.slice b (volOf o).1.length c, .int .i64 (volOf o).2.1, .slice d (volOf o).2.2.1.length f, .int .i64 (volOf o).2.2.2], .bool o.isSome]) ∧ OwnV w.heap.size w'.heap.size b (volOf o).1 d (volOf o).2.2.1 w' ∧ Below w.heap.size w w' := by
  cases o with
  | none => obtain ⟨h1, h2⟩ := h; exact ⟨none, 0, none, 0, h1, OwnV.none _ _ h2.size _ _ _, h2⟩
  | some v => obtain ⟨b, c, d, f, h1, h2, h3⟩ := h; exact ⟨b, c, d, f, h1, h2, h3⟩
end Go.Proofs.Ytlbhfgcpflhccaa
namespace Go.Proofs.Ytlbhfgcpflhccaa
set_option maxRecDepth 100000
open Go Go.ChangeShapes Go.WideShapes Go.ChangeAt Go.RowKit G00541
theorem kbox6 {w : World} {R : Nat} {o : Obj} (h : w.heap[R]? = some o) : R < w.heap.size := by
  obtain ⟨h1, _⟩ := Array.getElem?_eq_some_iff.1 h
  exact h1
set_option maxHeartbeats 2000000 in
theorem sameVolume_same (a1 a2 d1 d2 : Option Addr) (k1 k2 j1 j2 : Nat) (B : List ByteArray) (F : Int) (L : List Rc) (s : Int) (w : World) (hn : B.length ≤ 1048576) (hm : L.length ≤ 1048576)
    (h1 : Ss w.heap.size a1 B w) (h2 : Ss w.heap.size a2 B w) (g1 : Rs w.heap.size d1 L w) (g2 : Rs w.heap.size d2 L w) :
    Calls Try.prog 9 #[.agg #[.slice a1 B.length k1, .int .i64 F, .slice d1 L.length j1, .int .i64 s], .agg #[.slice a2 B.length k2, .int .i64 F, .slice d2 L.length j2, .int .i64 s]] w fun e w' => e = .returned (.bool true) ∧ Below w.heap.size w w' := by
  have gA := boxB w (.cells #[.slice a1 B.length k1, .int .i64 F, .slice d1 L.length j1, .int .i64 s] 28)
  have kA := heap_last w (.cells #[.slice a1 B.length k1, .int .i64 F, .slice d1 L.length j1, .int .i64 s] 28)
  generalize hW1 : w.alloc (.cells #[.slice a1 B.length k1, .int .i64 F, .slice d1 L.length j1, .int .i64 s] 28) = wa at *
  have gB := boxB wa (.cells #[.slice a2 B.length k2, .int .i64 F, .slice d2 L.length j2, .int .i64 s] 28)
  have kB := heap_last wa (.cells #[.slice a2 B.length k2, .int .i64 F, .slice d2 L.length j2, .int .i64 s] 28)
  generalize hW2 : wa.alloc (.cells #[.slice a2 B.length k2, .int .i64 F, .slice d2 L.length j2, .int .i64 s] 28) = wb at *
  have HG := hid (gA.trans (gB.mono gA.size))
  have HK1 := hid ((gB.block _ (kbox6 kA)).trans kA)
  have HK2 := hid kB
  have HT := hid (sameTexts_same a1 a2 k1 k2 B wb hn ((h1.below HG.out).mono HG.out.size) ((h2.below HG.out).mono HG.out.size))
  have HR := hid (fun v (g : Below w.heap.size w v) => sameRecords_same d1 d2 j1 j2 L v hm ((g1.below g).mono g.size) ((g2.below g).mono g.size))
  have x0 := box_cell HK1.out 0
  have y0 := box_cell HK2.out 0
  simp only [List.getElem?_toArray, List.getElem?_cons_zero] at x0 y0
  clear gA kA gB kB h1 h2 g1 g2
  go_enter Try.func9, Try.ntmps9
  go_wp2_with fail
  refine HT.out.mono ?_
  rintro e w1 ⟨rfl, b1⟩
  have HB1 := hid (HG.out.trans (b1.mono HG.out.size))
  have q1 := (b1.block _ (kbox6 HK1.out)).trans HK1.out
  have q2 := (b1.block _ (kbox6 HK2.out)).trans HK2.out
  have x1 := box_cell q1 1
  have x2 := box_cell q1 2
  have x3 := box_cell q1 3
  have y1 := box_cell q2 1
  have y2 := box_cell q2 2
  have y3 := box_cell q2 3
  simp only [List.getElem?_toArray, List.getElem?_cons_zero, List.getElem?_cons_succ] at x1 x2 x3 y1 y2 y3
  have HQ1 := hid q1
  have HQ2 := hid q2
  clear x0 y0 q1 q2 b1
  go_wp2_with fail
  refine (HR.out _ HB1.out).mono ?_
  rintro e w2 ⟨rfl, b2⟩
  have HB2 := hid (HB1.out.trans (b2.mono HB1.out.size))
  have q1 := (b2.block _ (kbox6 HQ1.out)).trans HQ1.out
  have q2 := (b2.block _ (kbox6 HQ2.out)).trans HQ2.out
  have z3 := box_cell q1 3
  have u3 := box_cell q2 3
  simp only [List.getElem?_toArray, List.getElem?_cons_zero, List.getElem?_cons_succ] at z3 u3
  clear x1 x2 x3 y1 y2 y3 q1 q2 b2
  go_wp2_with fail
  go_ret
  exact ⟨rfl, HB2.out⟩
/-- no op but a write, a trim or a crash changes any block -/
theorem do_same {B : List ByteArray} {F : Int} {L : List Rc} {s : Int} {o : Op} {v : Vol} (h : doV B F L s o = some v) (hk : o.kind = 3 ∨ o.kind = 4 ∨ o.kind = 6) : doL v.1 v.2.2.1 = doL B L := by
  have happ : ∀ (X Y : List Rc), doL B (X ++ Y) = doL (doL B X) Y := fun X Y => by unfold doL; rw [List.foldl_append]
  rcases hk with hk | hk | hk
  · rw [doV_rec (by omega)] at h
    unfold recDo at h
    split at h
    · rename_i hr
      injection h with h
      subst h
      have hgood : G00541.goodR (opR o) = true := by
        have h1 := hr.1
        unfold recOk at h1
        rw [Bool.and_eq_true] at h1
        exact h1.2
      have hl : (opR o).long = 0 := (G00541.good_cases hgood).2.2.2.2.2.2.2.2.1 hk
      show doL B (L ++ [opR o]) = doL B L
      rw [happ]
      show doR (doL B L) (opR o) = doL B L
      unfold doR
      rw [hl]
      rfl
    · cases h
  · by_cases g : restOk o
    · rw [doV_four hk g] at h
      injection h with h
      subst h
      rfl
    · rw [doV_rest (by omega) g] at h
      cases h
  · by_cases g : restOk o
    · rw [doV_six hk g] at h
      unfold foldDo at h
      injection h with h
      subst h
      show doL (doL B (L.take s.toNat)) (L.drop s.toNat) = doL B L
      rw [← happ, List.take_append_drop]
    · rw [doV_rest (by omega) g] at h
      cases h
/-- what BlocksIn answers -/
def blV (B : List ByteArray) (F : Int) (L : List Rc) (s : Int) : List ByteArray := cond (goodV B F L s) (doL B L) []
theorem blOut_any {B : List ByteArray} {F : Int} {L : List Rc} {s : Int} {w : World} {e : Ending} {w' : World} (h : BlOut B F L s w e w') :
    ∃ b c, e = .returned (.tuple #[.slice b (blV B F L s).length c, .bool (goodV B F L s)]) ∧ Ss w'.heap.size b (blV B F L s) w' ∧ (blV B F L s).length ≤ c ∧ Below w.heap.size w w' := by
  unfold BlOut at h
  unfold blV
  rcases h with ⟨hg, R, c, he, h1, h2, h3, h4⟩ | ⟨hg, he, h3⟩
  · rw [hg]
    have hl : (doL B L).length = 16 := by
      rw [doL_len]
      have := (goodV_iff.1 hg).bs
      exact goodBs_len this
    show ∃ b c, e = .returned (.tuple #[.slice b (doL B L).length c, .bool true]) ∧ Ss w'.heap.size b (doL B L) w' ∧ (doL B L).length ≤ c ∧ Below w.heap.size w w'
    rw [hl]
    exact ⟨_, c, he, h2.sl h2.lt, h4, h3⟩
  · rw [hg]
    exact ⟨none, 0, he, ⟨fun h0 => absurd h0 (by simp)⟩, Nat.le_refl _, h3⟩
/-- what is told of an op that is done -/
theorem done_of {B : List ByteArray} {F : Int} {L : List Rc} {s : Int} {o : Op} (h : (goDo B F L s o).isSome = true) :
    goodV B F L s = true ∧ goodV (volOf (goDo B F L s o)).1 (volOf (goDo B F L s o)).2.1 (volOf (goDo B F L s o)).2.2.1 (volOf (goDo B F L s o)).2.2.2 = true ∧
    (o.kind = 3 ∨ o.kind = 4 ∨ o.kind = 6 → blV (volOf (goDo B F L s o)).1 (volOf (goDo B F L s o)).2.1 (volOf (goDo B F L s o)).2.2.1 (volOf (goDo B F L s o)).2.2.2 = blV B F L s) := by
  cases hg : goodV B F L s
  · rw [goDo_no hg] at h; cases h
  · rw [goDo_yes hg] at h ⊢
    cases hv : doV B F L s o with
    | none => rw [hv] at h; cases h
    | some v =>
      have hG := goodV_do (goodV_iff.1 hg) hv
      have hG2 : goodV v.1 v.2.1 v.2.2.1 v.2.2.2 = true := goodV_iff.2 hG
      refine ⟨rfl, hG2, fun hk => ?_⟩
      show blV v.1 v.2.1 v.2.2.1 v.2.2.2 = blV B F L s
      unfold blV
      rw [hG2, hg]
      exact do_same hv hk
theorem volOf_len {B : List ByteArray} {F : Int} {L : List Rc} {s : Int} {o : Op} : (volOf (goDo B F L s o)).1.length ≤ 9999 ∧ (volOf (goDo B F L s o)).2.2.1.length ≤ 9999 := by
  cases h : goDo B F L s o with
  | none => exact ⟨Nat.zero_le _, Nat.zero_le _⟩
  | some v => exact goDo_small h
/-- what is kept: the bytes still to be read, boxes, texts and records -/
structure S6 (w0 : World) (X : List (Nat × Array Value × TypeId)) (T : List (Option Addr × List ByteArray)) (R : List (Option Addr × List Rc)) (l2 c2 : Nat) (a2 : Option Addr) (w : World) : Prop where
  below : Below w0.heap.size w0 w
  code : Code w0.heap.size l2 c2 a2 w
  bx : ∀ p ∈ X, w.heap[p.1]? = some (.cells p.2.1 p.2.2)
  ts : ∀ p ∈ T, Ss w.heap.size p.1 p.2 w
  rs : ∀ p ∈ R, Rs w.heap.size p.1 p.2 w
section
variable {w0 w w' : World} {X : List (Nat × Array Value × TypeId)} {T : List (Option Addr × List ByteArray)} {R : List (Option Addr × List Rc)} {l2 c2 : Nat} {a2 : Option Addr}
theorem S6.on (h : S6 w0 X T R l2 c2 a2 w) (g : Below w.heap.size w w') : S6 w0 X T R l2 c2 a2 w' :=
  ⟨h.below.trans (g.mono h.below.size), h.code.below (g.mono h.below.size), fun p hp => (g.block _ (kbox6 (h.bx p hp))).trans (h.bx p hp), fun p hp => ((h.ts p hp).below g).mono g.size, fun p hp => ((h.rs p hp).below g).mono g.size⟩
theorem S6.box (h : S6 w0 X T R l2 c2 a2 w) (cs : Array Value) (t : TypeId) : S6 w0 ((w.heap.size, cs, t) :: X) T R l2 c2 a2 (w.alloc (.cells cs t)) := by
  have g := h.on (boxB w (.cells cs t))
  exact ⟨g.below, g.code, fun p hp => by
    rcases List.mem_cons.1 hp with rfl | hp
    · exact heap_last _ _
    · exact g.bx p hp, g.ts, g.rs⟩
theorem S6.addT (h : S6 w0 X T R l2 c2 a2 w) {b : Option Addr} {l : List ByteArray} (hx : Ss w.heap.size b l w) : S6 w0 X ((b, l) :: T) R l2 c2 a2 w :=
  ⟨h.below, h.code, h.bx, fun p hp => by
    rcases List.mem_cons.1 hp with rfl | hp
    · exact hx
    · exact h.ts p hp, h.rs⟩
theorem S6.addR (h : S6 w0 X T R l2 c2 a2 w) {b : Option Addr} {l : List Rc} (hx : Rs w.heap.size b l w) : S6 w0 X T ((b, l) :: R) l2 c2 a2 w :=
  ⟨h.below, h.code, h.bx, h.ts, fun p hp => by
    rcases List.mem_cons.1 hp with rfl | hp
    · exact hx
    · exact h.rs p hp⟩
theorem S6.t (h : S6 w0 X T R l2 c2 a2 w) (b : Option Addr) (l : List ByteArray) (hp : (b, l) ∈ T) : Ss w.heap.size b l w := h.ts _ hp
theorem S6.r (h : S6 w0 X T R l2 c2 a2 w) (b : Option Addr) (l : List Rc) (hp : (b, l) ∈ R) : Rs w.heap.size b l w := h.rs _ hp
theorem S6.b (h : S6 w0 X T R l2 c2 a2 w) (n : Nat) (cs : Array Value) (t : TypeId) (hp : (n, cs, t) ∈ X) : w.heap[n]? = some (.cells cs t) := h.bx _ hp
theorem S6.bare (h : S6 w0 X T R l2 c2 a2 w) : S6 w0 [] [] [] l2 c2 a2 w := ⟨h.below, h.code, (fun _ h => by cases h), (fun _ h => by cases h), (fun _ h => by cases h)⟩
theorem S6.draw (h : S6 w0 X T R l2 c2 a2 w) : Code w.heap.size l2 c2 a2 w := h.code.mono h.below.size
end
/-- a box of four, read -/
theorem bx4 {w : World} {n : Nat} {a b c d : Value} {t : TypeId} (h : w.heap[n]? = some (.cells #[a, b, c, d] t)) : w.cell? ⟨n, 0, none⟩ = some a ∧ w.cell? ⟨n, 1, none⟩ = some b ∧ w.cell? ⟨n, 2, none⟩ = some c ∧ w.cell? ⟨n, 3, none⟩ = some d := ⟨box_cell h 0, box_cell h 1, box_cell h 2, box_cell h 3⟩
theorem bx5 {w : World} {n : Nat} {a b c d e : Value} {t : TypeId} (h : w.heap[n]? = some (.cells #[a, b, c, d, e] t)) : w.cell? ⟨n, 0, none⟩ = some a ∧ w.cell? ⟨n, 1, none⟩ = some b ∧ w.cell? ⟨n, 2, none⟩ = some c ∧ w.cell? ⟨n, 3, none⟩ = some d ∧ w.cell? ⟨n, 4, none⟩ = some e := ⟨box_cell h 0, box_cell h 1, box_cell h 2, box_cell h 3, box_cell h 4⟩
end Go.Proofs.Ytlbhfgcpflhccaa
namespace Go.Proofs.Ytlbhfgcpflhccaa
set_option maxRecDepth 100000
open Go.ChangeShapes Go.WideShapes Go.ChangeAt Go.RowKit G00541
def markV (B : List ByteArray) (F : Int) (L : List Rc) (s : Int) : Int := if goodV B F L s = true then markF F L else 0
theorem markV_yes {B : List ByteArray} {F : Int} {L : List Rc} {s : Int} (h : goodV B F L s = true) : markV B F L s = markF F L := by unfold markV; rw [if_pos h]
theorem markV_no {B : List ByteArray} {F : Int} {L : List Rc} {s : Int} (h : goodV B F L s = false) : markV B F L s = 0 := by unfold markV; rw [if_neg (by rw [h]; decide)]
set_option maxHeartbeats 1000000 in
theorem smark_any (aB aL : Option Addr) (kB kL : Nat) (B : List ByteArray) (F : Int) (L : List Rc) (s : Int) (w : World) (hf : B.length ≤ 1048576 ∧ L.length ≤ 1048576) (hB : Ss w.heap.size aB B w) (hL : Rs w.heap.size aL L w) :
    Calls Try.prog 25 #[.agg #[.slice aB B.length kB, .int .i64 F, .slice aL L.length kL, .int .i64 s]] w fun e w' => e = .returned (.tuple #[.int .i64 (markV B F L s), .bool (goodV B F L s)]) ∧ Below w.heap.size w w' := by
  have HB := hid (boxB w (.cells #[.slice aB B.length kB, .int .i64 F, .slice aL L.length kL, .int .i64 s] 28))
  have HC1 : Hid (∀ v, Below w.heap.size w v → Calls Try.prog 20 #[.agg #[.slice aB B.length kB, .int .i64 F, .slice aL L.length kL, .int .i64 s]] v fun e w' => e = .returned (.bool (goodV B F L s)) ∧ Below v.heap.size v w') := fun v g => sgoodV_any aB aL kB kL B F L s v hf ((hB.below g).mono g.size) ((hL.below g).mono g.size)
  have HC2 : Hid (∀ v, Below w.heap.size w v → Calls Try.prog 56 #[.agg #[.slice aB B.length kB, .int .i64 F, .slice aL L.length kL, .int .i64 s]] v fun e w' => e = .returned (.int .i64 (markF F L)) ∧ Below v.heap.size v w') := fun v g => l6Mark_any aB aL kB kL B F L s v hf.2 ((hL.below g).mono g.size)
  have y0 : (w.alloc (.cells #[.slice aB B.length kB, .int .i64 F, .slice aL L.length kL, .int .i64 s] 28)).cell? ⟨w.heap.size, 0, none⟩ = some (.slice aB B.length kB) := by go_simp
  have y1 : (w.alloc (.cells #[.slice aB B.length kB, .int .i64 F, .slice aL L.length kL, .int .i64 s] 28)).cell? ⟨w.heap.size, 1, none⟩ = some (.int .i64 F) := by go_simp
  have y2 : (w.alloc (.cells #[.slice aB B.length kB, .int .i64 F, .slice aL L.length kL, .int .i64 s] 28)).cell? ⟨w.heap.size, 2, none⟩ = some (.slice aL L.length kL) := by go_simp
  have y3 : (w.alloc (.cells #[.slice aB B.length kB, .int .i64 F, .slice aL L.length kL, .int .i64 s] 28)).cell? ⟨w.heap.size, 3, none⟩ = some (.int .i64 s) := by go_simp
  have hlt : w.heap.size < (w.alloc (.cells #[.slice aB B.length kB, .int .i64 F, .slice aL L.length kL, .int .i64 s] 28)).heap.size := by simp
  clear hB hL hf
  have HY := hid (@markV_yes B F L s)
  have HN := hid (@markV_no B F L s)
  cases hg : goodV B F L s
  · rw [HN.out hg]
    rw [hg] at HC1
    clear hg HY HN
    go_enter Try.func25, Try.ntmps25
    go_wp2_with fail
    refine (HC1.out _ HB.out).mono ?_
    rintro e w2 ⟨rfl, b2⟩
    have HB2 := hid (HB.out.trans (b2.mono HB.out.size))
    clear b2
    go_wp2_with fail
    go_ret2
    exact ⟨rfl, HB2.out⟩
  · rw [HY.out hg]
    rw [hg] at HC1
    clear hg HY HN
    go_enter Try.func25, Try.ntmps25
    go_wp2_with fail
    generalize w.alloc (.cells #[.slice aB B.length kB, .int .i64 F, .slice aL L.length kL, .int .i64 s] 28) = W at *
    refine (HC1.out _ HB.out).mono ?_
    rintro e w2 ⟨rfl, b2⟩
    have HB2 := hid (HB.out.trans (b2.mono HB.out.size))
    rw [← b2.cell (p := ⟨w.heap.size, 0, none⟩) hlt] at y0
    rw [← b2.cell (p := ⟨w.heap.size, 1, none⟩) hlt] at y1
    rw [← b2.cell (p := ⟨w.heap.size, 2, none⟩) hlt] at y2
    rw [← b2.cell (p := ⟨w.heap.size, 3, none⟩) hlt] at y3
    clear b2
    go_wp2_with fail
    refine (HC2.out _ HB2.out).mono ?_
    rintro e w3 ⟨rfl, b3⟩
    have HB3 := hid (HB2.out.trans (b3.mono HB2.out.size))
    clear b3
    go_wp2_with fail
    go_ret2
    exact ⟨rfl, HB3.out⟩
set_option maxHeartbeats 1000000 in
theorem imark_any (aB aL : Option Addr) (kB kL : Nat) (B : List ByteArray) (F : Int) (L : List Rc) (s : Int) (w : World) (hf : B.length ≤ 1048576 ∧ L.length ≤ 1048576) (hB : Ss w.heap.size aB B w) (hL : Rs w.heap.size aL L w) :
    Calls Try.prog 17 #[.agg #[.slice aB B.length kB, .int .i64 F, .slice aL L.length kL, .int .i64 s]] w fun e w' => e = .returned (.tuple #[.int .i64 (markV B F L s), .bool (goodV B F L s)]) ∧ Below w.heap.size w w' := by
  have HB := hid (boxB w (.cells #[.slice aB B.length kB, .int .i64 F, .slice aL L.length kL, .int .i64 s] 28))
  have HC1 : Hid (∀ v, Below w.heap.size w v → Calls Try.prog 13 #[.agg #[.slice aB B.length kB, .int .i64 F, .slice aL L.length kL, .int .i64 s]] v fun e w' => e = .returned (.bool (goodV B F L s)) ∧ Below v.heap.size v w') := fun v g => igoodV_any aB aL kB kL B F L s v hf ((hB.below g).mono g.size) ((hL.below g).mono g.size)
  have HC2 : Hid (∀ v, Below w.heap.size w v → Calls Try.prog 44 #[.int .i64 F, .slice aL L.length kL] v fun e w' => e = .returned (.int .i64 (markF F L)) ∧ Below v.heap.size v w') := fun v g => markBehind_any aL kL F L v hf.2 ((hL.below g).mono g.size)
  have y1 : (w.alloc (.cells #[.slice aB B.length kB, .int .i64 F, .slice aL L.length kL, .int .i64 s] 28)).cell? ⟨w.heap.size, 1, none⟩ = some (.int .i64 F) := by go_simp
  have y2 : (w.alloc (.cells #[.slice aB B.length kB, .int .i64 F, .slice aL L.length kL, .int .i64 s] 28)).cell? ⟨w.heap.size, 2, none⟩ = some (.slice aL L.length kL) := by go_simp
  have hlt : w.heap.size < (w.alloc (.cells #[.slice aB B.length kB, .int .i64 F, .slice aL L.length kL, .int .i64 s] 28)).heap.size := by simp
  clear hB hL hf
  have HY := hid (@markV_yes B F L s)
  have HN := hid (@markV_no B F L s)
  cases hg : goodV B F L s
  · rw [HN.out hg]
    rw [hg] at HC1
    clear hg HY HN
    go_enter Try.func17, Try.ntmps17
    go_wp2_with fail
    refine (HC1.out _ HB.out).mono ?_
    rintro e w2 ⟨rfl, b2⟩
    have HB2 := hid (HB.out.trans (b2.mono HB.out.size))
    clear b2
    go_wp2_with fail
    go_ret2
    exact ⟨rfl, HB2.out⟩
  · rw [HY.out hg]
    rw [hg] at HC1
    clear hg HY HN
    go_enter Try.func17, Try.ntmps17
    go_wp2_with fail
    refine (HC1.out _ HB.out).mono ?_
    rintro e w2 ⟨rfl, b2⟩
    have HB2 := hid (HB.out.trans (b2.mono HB.out.size))
    rw [← b2.cell (p := ⟨w.heap.size, 1, none⟩) hlt] at y1
    rw [← b2.cell (p := ⟨w.heap.size, 2, none⟩) hlt] at y2
    clear b2
    go_wp2_with fail
    refine (HC2.out _ HB2.out).mono ?_
    rintro e w3 ⟨rfl, b3⟩
    have HB3 := hid (HB2.out.trans (b3.mono HB2.out.size))
    clear b3
    go_wp2_with fail
    go_ret2
    exact ⟨rfl, HB3.out⟩
end Go.Proofs.Ytlbhfgcpflhccaa
namespace Go.Proofs.Ytlbhfgcpflhccaa
set_option maxRecDepth 100000
open Go Go.Shelf Go.RowKit
def jlays_ren : Go.Shelf.Ren := ⟨fun | 156 => 54 | 165 => 66 | 166 => 67 | 169 => 68 | 240 => 70 | 241 => 71 | 276 => 72 | 277 => 73 | n => n, fun | 31 => 25 | 9 => 9 | 3 => 3 | 4 => 4 | 0 => 0 | 20 => 20 | 72 => 106 | 76 => 110 | 70 => 104 | 37 => 22 | 75 => 109 | 127 => 114 | 164 => 115 | 5 => 5 | 80 => 112 | n => n, fun | n => n⟩
theorem jlays : Go.Proofs.Lays.n156 Try.prog jlays_ren := {
  mixed := by kernel_rfl
  f156 := Try.func54.trans (congrArg some (by kernel_rfl))
  f165 := Try.func66.trans (congrArg some (by kernel_rfl))
  f166 := Try.func67.trans (congrArg some (by kernel_rfl))
  f169 := Try.func68.trans (congrArg some (by kernel_rfl))
  f240 := Try.func70.trans (congrArg some (by kernel_rfl))
  f241 := Try.func71.trans (congrArg some (by kernel_rfl))
  f276 := Try.func72.trans (congrArg some (by kernel_rfl))
  f277 := Try.func73.trans (congrArg some (by kernel_rfl))
  t0 := Try.underlying0
  a0 := Try.isAgg0
  z0 := Try.sizeOf0
  v0 := Try.zeroValue0
  t3 := Try.underlying3
  a3 := Try.isAgg3
  z3 := Try.sizeOf3
  v3 := Try.zeroValue3
  t4 := Try.underlying4
  a4 := Try.isAgg4
  z4 := Try.sizeOf4
  v4 := Try.zeroValue4
  t9 := Try.underlying9
  a9 := Try.isAgg9
  z9 := Try.sizeOf9
  v9 := Try.zeroValue9
  t20 := Try.underlying20
  a20 := Try.isAgg20
  z20 := Try.sizeOf20
  v20 := Try.zeroValue20
  t31 := Try.underlying25
  a31 := Try.isAgg25
  z31 := Try.sizeOf25
  v31 := Try.zeroValue25
  t37 := Try.underlying22
  a37 := Try.isAgg22
  z37 := Try.sizeOf22
  v37 := Try.zeroValue22
  t70 := Try.underlying104
  a70 := Try.isAgg104
  z70 := Try.sizeOf104
  v70 := Try.zeroValue104
  t72 := Try.underlying106
  a72 := Try.isAgg106
  z72 := Try.sizeOf106
  v72 := Try.zeroValue106
  t75 := Try.underlying109
  a75 := Try.isAgg109
  z75 := Try.sizeOf109
  v75 := Try.zeroValue109
  t76 := Try.underlying110
  a76 := Try.isAgg110
  z76 := Try.sizeOf110
  v76 := Try.zeroValue110
  t127 := Try.underlying114
  a127 := Try.isAgg114
  z127 := Try.sizeOf114
  v127 := Try.zeroValue114
  t164 := Try.underlying115
  a164 := Try.isAgg115
  z164 := Try.sizeOf115
  v164 := Try.zeroValue115 }
theorem jextra : Go.Proofs.Builder.Extra Try.prog jlays_ren := {
  sizeBuilder := by kernel_rfl
  liesBuilder := by kernel_rfl
  t5 := Try.underlying5
  a5 := Try.isAgg5
  z5 := Try.sizeOf5
  v5 := Try.zeroValue5
  infoByte := by kernel_rfl
  cellsByte := by kernel_rfl
  sizeByte := by kernel_rfl
  neB5 := by decide
}
/-- texts, one behind the other -/
def catT (xs : List ByteArray) : ByteArray := ⟨((xs.map (·.data.toList)).flatten).toArray⟩
theorem catT_snoc (xs : List ByteArray) (x : ByteArray) : catT (xs ++ [x]) = catT xs ++ x := by
  unfold catT
  apply ByteArray.ext
  rw [ByteArray.data_append]
  simp
theorem join_flat : ∀ (xs : List (List UInt8)), Go.Lib.join xs [] = xs.flatten
  | [] => rfl
  | [x] => by rw [Go.Lib.join_one]; simp
  | x :: y :: r => by
    have h := join_flat (y :: r)
    unfold Go.Lib.join at h ⊢
    rw [List.flatten_cons, ← h]
    simp [List.intercalate, List.intersperse]
theorem joinS_any (R o c : Nat) (xs : List ByteArray) (w : World) (hcells : ∀ (j : Nat) x, xs[j]? = some x → w.cell? ⟨R, o + j, none⟩ = some (.string x)) (hR : R < w.heap.size) (hN : xs.length ≤ 4) (hcap : xs.length ≤ c) (hs : ∀ x ∈ xs, x.size ≤ 8) :
    Calls Try.prog 54 #[.slice (some ⟨R, o, none⟩) xs.length c, .string ⟨#[]⟩] w fun e w' => e = .returned (.string (catT xs)) ∧ Below w.heap.size w w' := by
  have hl : (Go.Lib.join (xs.map (·.data.toList)) (⟨#[]⟩ : ByteArray).data.toList).length ≤ 140737488355328 := by
    show (Go.Lib.join (xs.map (·.data.toList)) []).length ≤ 140737488355328
    rw [join_flat]
    have : ∀ (l : List ByteArray), (∀ x ∈ l, x.size ≤ 8) → ((l.map (·.data.toList)).flatten).length ≤ 8 * l.length := by
      intro l
      induction l with
      | nil => intro _; simp
      | cons a l ih =>
        intro h
        have h1 := ih (fun x hx => h x (List.mem_cons_of_mem _ hx))
        have h2 := h a (List.mem_cons_self)
        rw [List.map_cons, List.flatten_cons, List.length_append, List.length_cons]
        have h3 : a.data.toList.length = a.size := Array.length_toList
        omega
    have := this xs hs
    omega
  have h := Any.strings_Join jlays jextra R o c xs ⟨#[]⟩ w hcells hR (by omega) hcap hl
  have e : Go.Lib.join (xs.map (·.data.toList)) (⟨#[]⟩ : ByteArray).data.toList = (xs.map (·.data.toList)).flatten := join_flat _
  rw [e] at h
  exact h
end Go.Proofs.Ytlbhfgcpflhccaa
namespace Go.Proofs.Ytlbhfgcpflhccaa
set_option maxRecDepth 100000
open Go.ChangeShapes Go.WideShapes Go.ChangeAt Go.RowKit G00541
def okRd (B : List ByteArray) (F : Int) (L : List Rc) (s at_ long : Int) : Bool := goodV B F L s && spanR at_ long
def rdT (B : List ByteArray) (F : Int) (L : List Rc) (s at_ long : Int) : ByteArray := if okRd B F L s at_ long = true then catT (((doL B L).drop at_.toNat).take long.toNat) else ⟨#[]⟩
theorem rdT_no {B : List ByteArray} {F : Int} {L : List Rc} {s at_ long : Int} (h : okRd B F L s at_ long = false) : rdT B F L s at_ long = ⟨#[]⟩ := by unfold rdT; rw [if_neg (by rw [h]; decide)]
theorem rdT_yes {B : List ByteArray} {F : Int} {L : List Rc} {s : Int} {p n : Nat} (h : okRd B F L s p n = true) : rdT B F L s p n = catT (((doL B L).drop p).take n) := by unfold rdT; rw [if_pos h, Int.toNat_natCast, Int.toNat_natCast]
theorem cutV_at (V : List ByteArray) (p n i : Nat) (hi : i < n) (h : p + n ≤ V.length) : ∃ h2 : p + i < V.length, ((V.drop p).take n)[i]? = some (V[p + i]) := by
  refine ⟨by omega, ?_⟩
  rw [List.getElem?_take_of_lt hi, List.getElem?_drop, List.getElem?_eq_getElem (by omega)]
theorem doK_two_bytes (ts : List ByteArray) (k : Int) (p : Nat) (D : ByteArray) (ht : ∀ t ∈ ts, t.size ≤ 8) : ∀ j, ∀ t ∈ doK ts k p D j, t.size ≤ 8
  | 0, t, h => ht t h
  | j + 1, t, h => by
    have h' : t ∈ (doK ts k p D j).set (p + j) (pieceT k D j) := h
    rcases List.mem_or_eq_of_mem_set h' with h1 | h1
    · exact doK_two_bytes ts k p D ht j t h1
    · subst h1
      unfold pieceT
      split
      · have := ByteArray.size_extract (a := D) (b := 2 * j) (e := 2 * j + 2)
        omega
      · decide
theorem doL_bytes (L : List Rc) : ∀ (B : List ByteArray), (∀ t ∈ B, t.size ≤ 8) → ∀ t ∈ doL B L, t.size ≤ 8 := by
  induction L with
  | nil => intro B h t ht; exact h t ht
  | cons r l ih =>
    intro B h t ht
    have ht' : t ∈ doL (doR B r) l := ht
    exact ih (doR B r) (fun x hx => doK_two_bytes B _ _ _ h _ x hx) t ht'
theorem take_cat (xs : List ByteArray) (i : Nat) (h : i < xs.length) : catT (xs.take (i + 1)) = catT (xs.take i) ++ xs[i] := by
  rw [take_snoc xs i h, catT_snoc]
theorem catT_size (xs : List ByteArray) (h : ∀ x ∈ xs, x.size ≤ 8) : (catT xs).size ≤ 8 * xs.length := by
  have : ∀ (l : List ByteArray), (∀ x ∈ l, x.size ≤ 8) → ((l.map (·.data.toList)).flatten).length ≤ 8 * l.length := by
    intro l
    induction l with
    | nil => intro _; simp
    | cons a l ih =>
      intro h
      have h1 := ih (fun x hx => h x (List.mem_cons_of_mem _ hx))
      have h2 := h a (List.mem_cons_self)
      rw [List.map_cons, List.flatten_cons, List.length_append, List.length_cons]
      have h3 : a.data.toList.length = a.size := Array.length_toList
      omega
  have h1 := this xs h
  show (((xs.map (·.data.toList)).flatten).toArray).size ≤ 8 * xs.length
  rw [List.size_toArray]
  exact h1
set_option maxHeartbeats 4000000 in
theorem sread_any (aB aL : Option Addr) (kB kL : Nat) (B : List ByteArray) (F : Int) (L : List Rc) (s : Int) (at_ long : Int) (w : World) (hf : B.length ≤ 1048576 ∧ L.length ≤ 1048576) (hB : Ss w.heap.size aB B w) (hL : Rs w.heap.size aL L w) :
    Calls Try.prog 23 #[.agg #[.slice aB B.length kB, .int .i64 F, .slice aL L.length kL, .int .i64 s], .int .i64 at_, .int .i64 long] w fun e w' => e = .returned (.tuple #[.string (rdT B F L s at_ long), .bool (okRd B F L s at_ long)]) ∧ Below w.heap.size w w' := by
  have HB := hid (boxB w (.cells #[.slice aB B.length kB, .int .i64 F, .slice aL L.length kL, .int .i64 s] 28))
  have HC1 : Hid (∀ v, Below w.heap.size w v → Calls Try.prog 20 #[.agg #[.slice aB B.length kB, .int .i64 F, .slice aL L.length kL, .int .i64 s]] v fun e w' => e = .returned (.bool (goodV B F L s)) ∧ Below v.heap.size v w') := fun v g => sgoodV_any aB aL kB kL B F L s v hf ((hB.below g).mono g.size) ((hL.below g).mono g.size)
  have HC2 : Hid (GoodV B F L s → ∀ v, Below w.heap.size w v → Calls Try.prog 55 #[.agg #[.slice aB B.length kB, .int .i64 F, .slice aL L.length kL, .int .i64 s]] v fun e w' => ∃ R c, e = .returned (.slice (some ⟨R, 0, none⟩) 16 c) ∧ v.heap.size ≤ R ∧ SRow R (doL B L) w' ∧ Below v.heap.size v w' ∧ 16 ≤ c) := fun h v g => l6In_any aB aL kB kL B F L s v (goodBs_len h.bs) h.len h.recs ((hB.below g).mono g.size) ((hL.below g).mono g.size)
  have y0 : (w.alloc (.cells #[.slice aB B.length kB, .int .i64 F, .slice aL L.length kL, .int .i64 s] 28)).cell? ⟨w.heap.size, 0, none⟩ = some (.slice aB B.length kB) := by go_simp
  have y1 : (w.alloc (.cells #[.slice aB B.length kB, .int .i64 F, .slice aL L.length kL, .int .i64 s] 28)).cell? ⟨w.heap.size, 1, none⟩ = some (.int .i64 F) := by go_simp
  have y2 : (w.alloc (.cells #[.slice aB B.length kB, .int .i64 F, .slice aL L.length kL, .int .i64 s] 28)).cell? ⟨w.heap.size, 2, none⟩ = some (.slice aL L.length kL) := by go_simp
  have y3 : (w.alloc (.cells #[.slice aB B.length kB, .int .i64 F, .slice aL L.length kL, .int .i64 s] 28)).cell? ⟨w.heap.size, 3, none⟩ = some (.int .i64 s) := by go_simp
  have hlt : w.heap.size < (w.alloc (.cells #[.slice aB B.length kB, .int .i64 F, .slice aL L.length kL, .int .i64 s] 28)).heap.size := by simp
  have HNO : Hid (okRd B F L s at_ long = false → rdT B F L s at_ long = ⟨#[]⟩) := rdT_no
  clear hB hL hf
  go_enter Try.func23, Try.ntmps23
  go_wp2_with fail
  generalize w.alloc (.cells #[.slice aB B.length kB, .int .i64 F, .slice aL L.length kL, .int .i64 s] 28) = W at *
  refine (HC1.out _ HB.out).mono ?_
  rintro e w2 ⟨rfl, b2⟩
  have HB2 := hid (HB.out.trans (b2.mono HB.out.size))
  rw [← b2.cell (p := ⟨w.heap.size, 0, none⟩) hlt] at y0
  rw [← b2.cell (p := ⟨w.heap.size, 1, none⟩) hlt] at y1
  rw [← b2.cell (p := ⟨w.heap.size, 2, none⟩) hlt] at y2
  rw [← b2.cell (p := ⟨w.heap.size, 3, none⟩) hlt] at y3
  clear b2 hlt HC1
  cases hg : goodV B F L s
  · have HN : Hid (okRd B F L s at_ long = false) := by show okRd B F L s at_ long = false; unfold okRd; rw [hg]; rfl
    clear hg
    go_wp2_with fail
    go_ret2
    exact ⟨by rw [HNO.out HN.out, HN.out]; rfl, HB2.out⟩
  have HC3 := hid (HC2.out (goodV_iff.1 hg))
  have HGB := hid (goodV_iff.1 hg).bs
  by_cases h1 : 1 ≤ long ∧ long ≤ 4
  case neg =>
    have HN : Hid (okRd B F L s at_ long = false) := by
      show okRd B F L s at_ long = false
      unfold okRd
      rw [span_no (fun h => h1 ⟨h.1, h.2.1⟩), Bool.and_false]
    have HD := hid (fun v => l1In_no long 1 4 v (by omega))
    clear hg h1
    go_wp2_with fail
    refine (HD.out _).mono ?_
    rintro e w3 ⟨rfl, hw3⟩
    rw [hw3]
    go_wp2_with fail
    go_ret2
    exact ⟨by rw [HNO.out HN.out, HN.out]; rfl, HB2.out⟩
  have HD := hid (fun v => l1In_yes long 1 4 v h1.1 h1.2)
  obtain ⟨l1, l4⟩ := h1
  go_wp2_with fail
  refine (HD.out _).mono ?_
  rintro e w3 ⟨rfl, hw3⟩
  rw [hw3]
  clear hw3 HD w3
  by_cases h2 : 0 ≤ at_ ∧ at_ ≤ 16 - long
  case neg =>
    have HN : Hid (okRd B F L s at_ long = false) := by
      show okRd B F L s at_ long = false
      unfold okRd
      rw [span_no (fun h => h2 ⟨h.2.2.1, h.2.2.2⟩), Bool.and_false]
    have HD := hid (fun v => l1In_no at_ 0 (16 - long) v (by omega))
    clear hg h2
    go_wp2_with fail
    refine (HD.out _).mono ?_
    rintro e w3 ⟨rfl, hw3⟩
    rw [hw3]
    go_wp2_with fail
    go_ret2
    exact ⟨by rw [HNO.out HN.out, HN.out]; rfl, HB2.out⟩
  have HD := hid (fun v => l1In_yes at_ 0 (16 - long) v h2.1 h2.2)
  have hok : okRd B F L s at_ long = true := by unfold okRd; rw [hg, span_yes ⟨l1, l4, h2.1, h2.2⟩]; rfl
  have HOK := hid hok
  obtain ⟨p, hp⟩ : ∃ p : Nat, at_ = p := ⟨at_.toNat, by omega⟩
  obtain ⟨n, hn⟩ : ∃ n : Nat, long = n := ⟨long.toNat, by omega⟩
  subst hp hn
  have HV := hid (rdT_yes hok)
  have hpn : p + n ≤ 16 := by omega
  clear hok hg h2 HNO
  go_wp2_with fail
  refine (HD.out _).mono ?_
  rintro e w3 ⟨rfl, hw3⟩
  rw [hw3]
  clear hw3 HD w3
  go_wp2_with fail
  refine (HC3.out _ HB2.out).mono ?_
  rintro e w4 ⟨R, c, rfl, hR, hrow, b4, hc⟩
  have HB4 := hid (HB2.out.trans (b4.mono HB2.out.size))
  have HROW := hid hrow
  have HVL : Hid ((doL B L).length = 16) := by show (doL B L).length = 16; rw [doL_len]; exact goodBs_len HGB.out
  have HSZ : Hid (∀ x ∈ ((doL B L).drop p).take n, x.size ≤ 8) := fun x hx => by
    refine doL_bytes L B (fun t ht => ?_) x (List.mem_of_mem_drop (List.mem_of_mem_take hx))
    obtain ⟨j, hj, rfl⟩ := List.getElem_of_mem ht
    have := goodBs_two HGB.out j hj
    omega
  clear hrow b4 hR HC3 HC2 y0 y1 y2 y3
  generalize doL B L = V at *
  go_wp2_with fail
  go_loopw [8, 34] (fun t i wr => ∃ k : Nat, k ≤ n ∧ i = .int .i64 k ∧ t = .string (catT (((V.drop p).take n).take k)) ∧ wr = w4) (fun _ i _ => n - (intOf i).toNat)
  case atStart => exact ⟨0, Nat.zero_le _, rfl, rfl, rfl⟩
  case round =>
    obtain ⟨k, hk, rfl, rfl, hwr⟩ := hrel
    obtain rfl := hwr.symm
    by_cases hlt : k < n
    · obtain ⟨h2, hat⟩ := cutV_at V p n k hlt (by have := HVL.out; omega)
      have c0 := HROW.out.cell (p + k) h2
      have hlen : k < ((V.drop p).take n).length := by
        rw [List.length_take, List.length_drop]; have := HVL.out; omega
      have HT := hid (take_cat ((V.drop p).take n) k hlen)
      have he : ((V.drop p).take n)[k] = V[p + k] := by
        rw [List.getElem?_eq_getElem hlen] at hat
        exact Option.some.inj hat
      rw [he] at HT
      have hD8 : (V[p + k]).size ≤ 8 := by rw [← he]; exact HSZ.out _ (List.getElem_mem hlen)
      have hT32 : (catT (((V.drop p).take n).take k)).size ≤ 32 := by
        have h9 := catT_size (((V.drop p).take n).take k) (fun x hx => HSZ.out x (List.mem_of_mem_take hx))
        have h10 : (((V.drop p).take n).take k).length ≤ k := by rw [List.length_take]; omega
        omega
      have hTD : (catT (((V.drop p).take n).take k)).size + (V[p + k]).size ≤ 9223372036854775807 := by omega
      clear hat he hlen
      generalize V[p + k] = D at *
      generalize catT (((V.drop p).take n).take k) = T at *
      go_wp2_with fail
      go_roundw
      case rel => exact ⟨k + 1, by omega, by go_num, by rw [HT.out], by trivial⟩
      case measure => simp [intOf]; omega
    · obtain rfl : k = n := by omega
      have HE : Hid (((V.drop p).take k).take k = (V.drop p).take k) := List.take_of_length_le (by rw [List.length_take]; omega)
      rw [HE.out]
      go_wp2_with fail
      go_ret2
      exact ⟨by rw [HV.out, HOK.out]; rfl, HB4.out⟩
set_option maxHeartbeats 4000000 in
theorem iread_any (aB aL : Option Addr) (kB kL : Nat) (B : List ByteArray) (F : Int) (L : List Rc) (s : Int) (at_ long : Int) (w : World) (hf : B.length ≤ 1048576 ∧ L.length ≤ 1048576) (hB : Ss w.heap.size aB B w) (hL : Rs w.heap.size aL L w) :
    Calls Try.prog 22 #[.agg #[.slice aB B.length kB, .int .i64 F, .slice aL L.length kL, .int .i64 s], .int .i64 at_, .int .i64 long] w fun e w' => e = .returned (.tuple #[.string (rdT B F L s at_ long), .bool (okRd B F L s at_ long)]) ∧ Below w.heap.size w w' := by
  have HB := hid (boxB w (.cells #[.slice aB B.length kB, .int .i64 F, .slice aL L.length kL, .int .i64 s] 28))
  have HC1 : Hid (∀ v, Below w.heap.size w v → Calls Try.prog 11 #[.agg #[.slice aB B.length kB, .int .i64 F, .slice aL L.length kL, .int .i64 s]] v fun e w' => BlOut B F L s v e w') := fun v g => iblocksV_any aB aL kB kL B F L s v hf ((hB.below g).mono g.size) ((hL.below g).mono g.size)
  have HNO : Hid (okRd B F L s at_ long = false → rdT B F L s at_ long = ⟨#[]⟩) := rdT_no
  have HD := hid (fun v => goodSpan_any at_ long v)
  clear hB hL hf
  go_enter Try.func22, Try.ntmps22
  go_wp2_with fail
  refine (HC1.out _ HB.out).mono ?_
  rintro e w2 (⟨hg, R, c, rfl, hR, hrow, b2, hc⟩ | ⟨hg, rfl, b2⟩)
  · have HB2 := hid (HB.out.trans (b2.mono HB.out.size))
    have HROW := hid hrow
    have HGB := hid (goodV_iff.1 hg).bs
    have hRl := hrow.lt
    clear b2 hrow hR HC1
    cases hs : spanR at_ long
    · have HN : Hid (okRd B F L s at_ long = false) := by show okRd B F L s at_ long = false; unfold okRd; rw [hs, Bool.and_false]
      rw [hs] at HD
      clear hg hs
      go_wp2_with fail
      refine (HD.out _).mono ?_
      rintro e w3 ⟨rfl, hw3⟩
      rw [hw3]
      go_wp2_with fail
      go_ret2
      exact ⟨by rw [HNO.out HN.out, HN.out]; rfl, HB2.out⟩
    · have h4 := of_decide_eq_true hs
      have hok : okRd B F L s at_ long = true := by unfold okRd; rw [hg, hs]; rfl
      rw [hs] at HD
      obtain ⟨p, hp⟩ : ∃ p : Nat, at_ = p := ⟨at_.toNat, by omega⟩
      obtain ⟨n, hn⟩ : ∃ n : Nat, long = n := ⟨long.toNat, by omega⟩
      subst hp hn
      have HOK := hid hok
      have HV := hid (rdT_yes hok)
      have hpn : p + n ≤ 16 := by omega
      have hn4 : n ≤ 4 := by omega
      have HVL : Hid ((doL B L).length = 16) := by show (doL B L).length = 16; rw [doL_len]; exact goodBs_len HGB.out
      have HSZ : Hid (∀ x ∈ ((doL B L).drop p).take n, x.size ≤ 8) := fun x hx => by
        refine doL_bytes L B (fun t ht => ?_) x (List.mem_of_mem_drop (List.mem_of_mem_take hx))
        obtain ⟨j, hj, rfl⟩ := List.getElem_of_mem ht
        have := goodBs_two HGB.out j hj
        omega
      clear hok hg hs HNO
      generalize doL B L = V at *
      have hxl : ((V.drop p).take n).length = n := by rw [List.length_take, List.length_drop]; have := HVL.out; omega
      have HJ : Hid (Calls Try.prog 54 #[.slice (some ⟨R, p, none⟩) n (c - p), .string ⟨#[]⟩] w2 fun e w' => e = .returned (.string (catT ((V.drop p).take n))) ∧ Below w2.heap.size w2 w') := by
        have := joinS_any R p (c - p) ((V.drop p).take n) w2 (fun j x hx => by
          have hj : j < n := by
            rcases Nat.lt_or_ge j ((V.drop p).take n).length with h' | h'
            · omega
            · rw [List.getElem?_eq_none h'] at hx; cases hx
          obtain ⟨h2, hat⟩ := cutV_at V p n j hj (by have := HVL.out; omega)
          rw [hat] at hx
          rw [← Option.some.inj hx]
          exact HROW.out.cell (p + j) h2) hRl (by omega) (by omega) HSZ.out
        rw [hxl] at this
        exact this
      clear hxl
      go_wp2_with fail
      refine (HD.out _).mono ?_
      rintro e w3 ⟨rfl, hw3⟩
      rw [hw3]
      clear hw3 HD w3
      go_wp2_with fail
      refine HJ.out.mono ?_
      rintro e w4 ⟨rfl, b4⟩
      have HB4 := hid (HB2.out.trans (b4.mono HB2.out.size))
      clear b4 HJ
      go_wp2_with fail
      go_ret2
      exact ⟨by rw [HV.out, HOK.out]; rfl, HB4.out⟩
  · have HB2 := hid (HB.out.trans (b2.mono HB.out.size))
    have HN : Hid (okRd B F L s at_ long = false) := by show okRd B F L s at_ long = false; unfold okRd; rw [hg]; rfl
    clear hg b2 HC1
    go_wp2_with fail
    go_ret2
    exact ⟨by rw [HNO.out HN.out, HN.out]; rfl, HB2.out⟩
end Go.Proofs.Ytlbhfgcpflhccaa
namespace Go.Proofs.Ytlbhfgcpflhccaa
set_option maxRecDepth 100000
open Go Go.ChangeShapes Go.WideShapes Go.ChangeAt Go.RowKit G00541
/-- what ReadBlocks tells, in what BlocksIn tells -/
theorem rd_of {B : List ByteArray} {F : Int} {L : List Rc} {s p n : Int} (h : okRd B F L s p n = true) : goodV B F L s = true ∧ ∃ pn nn : Nat, p = (pn : Int) ∧ n = (nn : Int) ∧ 1 ≤ nn ∧ pn + nn ≤ 16 ∧ (blV B F L s).length = 16 ∧ rdT B F L s p n = catT (((blV B F L s).drop pn).take nn) := by
  have h' := h
  unfold okRd at h'
  rw [Bool.and_eq_true] at h'
  obtain ⟨h1, h2⟩ := h'
  have h3 := of_decide_eq_true h2
  obtain ⟨pn, rfl⟩ : ∃ k : Nat, p = (k : Int) := ⟨p.toNat, by omega⟩
  obtain ⟨nn, rfl⟩ : ∃ k : Nat, n = (k : Int) := ⟨n.toNat, by omega⟩
  have hb : blV B F L s = doL B L := by unfold blV; rw [h1]; rfl
  refine ⟨h1, pn, nn, rfl, rfl, by omega, by omega, ?_, ?_⟩
  · rw [hb, doL_len]
    exact goodBs_len (goodV_iff.1 h1).bs
  · rw [rdT_yes h, hb]
theorem recV_form (o : Op) : ∃ rk rp rn rD, recV o = .agg #[.int .i64 rk, .int .i64 rp, .int .i64 rn, .string rD] := by
  cases h : recOk o
  · exact ⟨_, _, _, _, recV_no h⟩
  · exact ⟨_, _, _, _, recV_yes h⟩
theorem catT_sz : ∀ (xs : List ByteArray), (∀ x ∈ xs, x.size ≤ 8) → (catT xs).size ≤ 8 * xs.length
  | [], _ => Nat.le_refl _
  | x :: xs, h => by
    have h1 := catT_sz xs (fun y hy => h y (List.mem_cons_of_mem _ hy))
    have h2 := h x (List.mem_cons_self ..)
    have e : (catT (x :: xs)).size = x.size + (catT xs).size := by
      show (((x :: xs).map (·.data.toList)).flatten).toArray.size = x.size + ((xs.map (·.data.toList)).flatten).toArray.size
      rw [List.map_cons, List.flatten_cons, List.size_toArray, List.size_toArray, List.length_append]
      rfl
    rw [e, List.length_cons]
    omega
theorem cat_small (T : List ByteArray) (h : ∀ t ∈ T, t.size ≤ 8) (p j : Nat) (hj : j ≤ 16) : (catT ((T.drop p).take j)).size ≤ 1000 := by
  have h1 := catT_sz ((T.drop p).take j) (fun x hx => h x (List.mem_of_mem_drop (List.mem_of_mem_take hx)))
  have h2 : ((T.drop p).take j).length ≤ j := by rw [List.length_take]; omega
  omega
def ivl6 : Value → Int
  | .int _ n => n
  | _ => 0
theorem good_new : goodV blankT 0 [] 0 = true := by decide +kernel
set_option maxHeartbeats 8000000 in
theorem volumes_small (l1 c1 l2 c2 : Nat) (a1 a2 : Option Addr) (w : World) (h12 : l1 + l2 ≤ 1048576) (hK1 : Code w.heap.size l1 c1 a1 w) (hK2 : Code w.heap.size l2 c2 a2 w) :
    Calls Try.prog 4 #[.slice a1 l1 c1, .slice a2 l2 c2] w fun e w' => e = .returned (.bool true) ∧ Below w.heap.size w w' := by
  have hd : decide ((1048576 : Int) < (l1 : Int) + (l2 : Int)) = false := by simp; omega
  have HK1 := hid hK1
  have HS : Hid (S6 w [] [] [] l2 c2 a2 w) := ⟨Below.refl _ _, hK2, (fun _ h => by cases h), (fun _ h => by cases h), (fun _ h => by cases h)⟩
  clear hK1 hK2
  go_enter Try.func4, Try.ntmps4
  go_wp2_with fail
  refine (drawDoVolume_any l1 c1 a1 _ HK1.out).mono ?_
  rintro e w1 ⟨⟨B, F, L, s⟩, aB, kB, aL, kL, ⟨k, p, n, D, m⟩, rfl, ho, hv, hb⟩
  have HS1 : Hid (S6 w [] [(aB, B)] [(aL, L)] l2 c2 a2 w1) := ((HS.out.on hb).addR hv.rs).addT hv.ss
  have HN : Hid (B.length ≤ 1048576 ∧ L.length ≤ 1048576 ∧ L.length ≤ kL) := ⟨Nat.le_trans (Nat.le_of_eq hv.n16) (by decide), Nat.le_trans hv.n40 (by decide), hv.room⟩
  clear HS HK1 hb hv ho
  simp only [oval]
  have z1 : (w1.alloc (.cells #[.slice aB B.length kB, .int .i64 F, .slice aL L.length kL, .int .i64 s] 28)).heap.size = w1.heap.size + 1 := heap_size _ _
  have HS2 := hid (HS1.out.box #[.slice aB B.length kB, .int .i64 F, .slice aL L.length kL, .int .i64 s] 28)
  have HS3 := hid (HS2.out.box #[.int .i64 k, .int .i64 p, .int .i64 n, .string D, .int .i64 m] 35)
  rw [z1] at HS3
  clear z1 HS2 HS1
  go_wp2_with fail
  generalize (w1.alloc (.cells #[.slice aB B.length kB, .int .i64 F, .slice aL L.length kL, .int .i64 s] 28)).alloc (.cells #[.int .i64 k, .int .i64 p, .int .i64 n, .string D, .int .i64 m] 35) = w2 at *
  generalize w1.heap.size = P at *
  have HDI := hid (ido_any aB aL kB kL B F L s k p n m D w2 ⟨HN.out.1, HN.out.2.1⟩ HN.out.2.2 (HS3.out.t aB B (by simp)) (HS3.out.r aL L (by simp)))
  have HDS := hid (fun v (h : S6 w [(P + 1, #[.int .i64 k, .int .i64 p, .int .i64 n, .string D, .int .i64 m], 35), (P, #[.slice aB B.length kB, .int .i64 F, .slice aL L.length kL, .int .i64 s], 28)] [(aB, B)] [(aL, L)] l2 c2 a2 v) => sdo_any aB aL kB kL B F L s k p n m D v ⟨HN.out.1, HN.out.2.1⟩ (h.t aB B (by simp)) (h.r aL L (by simp)))
  have HTO : Hid ((goDo B F L s ⟨k, p, n, D, m⟩).isSome = true → goodV B F L s = true ∧ goodV (volOf (goDo B F L s ⟨k, p, n, D, m⟩)).1 (volOf (goDo B F L s ⟨k, p, n, D, m⟩)).2.1 (volOf (goDo B F L s ⟨k, p, n, D, m⟩)).2.2.1 (volOf (goDo B F L s ⟨k, p, n, D, m⟩)).2.2.2 = true ∧ (k = 3 ∨ k = 4 ∨ k = 6 → blV (volOf (goDo B F L s ⟨k, p, n, D, m⟩)).1 (volOf (goDo B F L s ⟨k, p, n, D, m⟩)).2.1 (volOf (goDo B F L s ⟨k, p, n, D, m⟩)).2.2.1 (volOf (goDo B F L s ⟨k, p, n, D, m⟩)).2.2.2 = blV B F L s)) := done_of
  have HN2 := hid (volOf_len (B := B) (F := F) (L := L) (s := s) (o := ⟨k, p, n, D, m⟩))
  have HDI2 := hid (HDI.out.mono fun e w' h => DOut.tells h)
  have HDS2 := hid (fun v h => (HDS.out v h).mono fun e w' h => DOut.tells h)
  clear HDI HDS
  generalize volOf (goDo B F L s ⟨k, p, n, D, m⟩) = V at *
  generalize (goDo B F L s ⟨k, p, n, D, m⟩).isSome = ok at *
  obtain ⟨B2, F2, L2, s2⟩ := V
  refine HDI2.out.mono ?_
  rintro e w3 ⟨b3, k3, d3, j3, rfl, o3, hb⟩
  have HS4 : Hid (S6 w [(P + 1, #[.int .i64 k, .int .i64 p, .int .i64 n, .string D, .int .i64 m], 35), (P, #[.slice aB B.length kB, .int .i64 F, .slice aL L.length kL, .int .i64 s], 28)] [(aB, B)] [(aL, L)] l2 c2 a2 w3) := HS3.out.on hb
  have HR3 := hid o3.read
  clear HS3 hb o3 HDI2
  simp only at HR3 HN2 HTO
  have HS5 := hid (((HS4.out.addT HR3.out.1).addR HR3.out.2).box #[.slice b3 B2.length k3, .int .i64 F2, .slice d3 L2.length j3, .int .i64 s2] 28)
  have HS5a := hid (HS4.out.on (boxB w3 (.cells #[.slice b3 B2.length k3, .int .i64 F2, .slice d3 L2.length j3, .int .i64 s2] 28)))
  generalize hX : w3.heap.size = X at HS5
  generalize hW : w3.alloc (.cells #[.slice b3 B2.length k3, .int .i64 F2, .slice d3 L2.length j3, .int .i64 s2] 28) = w4 at *
  obtain ⟨x0, x1, x2, x3⟩ := bx4 (HS5.out.b P #[.slice aB B.length kB, .int .i64 F, .slice aL L.length kL, .int .i64 s] 28 (by simp))
  obtain ⟨y0, y1, y2, y3, y4⟩ := bx5 (HS5.out.b (P + 1) #[.int .i64 k, .int .i64 p, .int .i64 n, .string D, .int .i64 m] 35 (by simp))
  go_wp2_with fail
  refine (HDS2.out _ HS5a.out).mono ?_
  rintro e w5 ⟨b4, k4, d4, j4, rfl, o4, hb⟩
  have HS6 := hid (HS5.out.on hb)
  have HR4 := hid o4.read
  clear HS5 HS5a hb o4 HDS2 x0 x1 x2 x3 y0 y1 y2 y3 y4 HS4 HR3 hW hX
  (try simp only at HR4)
  have HS7 := hid (((HS6.out.addT HR4.out.1).addR HR4.out.2).box #[.slice b4 B2.length k4, .int .i64 F2, .slice d4 L2.length j4, .int .i64 s2] 28)
  generalize hY : w5.heap.size = Y at HS7
  generalize hW : w5.alloc (.cells #[.slice b4 B2.length k4, .int .i64 F2, .slice d4 L2.length j4, .int .i64 s2] 28) = w6 at *
  have hbk : (ok != ok) = false := by cases ok <;> rfl
  have HSV := hid (fun v (h : S6 w [(Y, #[.slice b4 B2.length k4, .int .i64 F2, .slice d4 L2.length j4, .int .i64 s2], 28), (X, #[.slice b3 B2.length k3, .int .i64 F2, .slice d3 L2.length j3, .int .i64 s2], 28), (P + 1, #[.int .i64 k, .int .i64 p, .int .i64 n, .string D, .int .i64 m], 35), (P, #[.slice aB B.length kB, .int .i64 F, .slice aL L.length kL, .int .i64 s], 28)] [(b4, B2), (b3, B2), (aB, B)] [(d4, L2), (d3, L2), (aL, L)] l2 c2 a2 v) => sameVolume_same b3 b4 d3 d4 k3 k4 j3 j4 B2 F2 L2 s2 v (Nat.le_trans HN2.out.1 (by decide)) (Nat.le_trans HN2.out.2 (by decide)) (h.t b3 B2 (by simp)) (h.t b4 B2 (by simp)) (h.r d3 L2 (by simp)) (h.r d4 L2 (by simp)))
  have HGI := hid (fun v (h : S6 w [(Y, #[.slice b4 B2.length k4, .int .i64 F2, .slice d4 L2.length j4, .int .i64 s2], 28), (X, #[.slice b3 B2.length k3, .int .i64 F2, .slice d3 L2.length j3, .int .i64 s2], 28), (P + 1, #[.int .i64 k, .int .i64 p, .int .i64 n, .string D, .int .i64 m], 35), (P, #[.slice aB B.length kB, .int .i64 F, .slice aL L.length kL, .int .i64 s], 28)] [(b4, B2), (b3, B2), (aB, B)] [(d4, L2), (d3, L2), (aL, L)] l2 c2 a2 v) => igoodV_any aB aL kB kL B F L s v ⟨HN.out.1, HN.out.2.1⟩ (h.t aB B (by simp)) (h.r aL L (by simp)))
  have HGS := hid (fun v (h : S6 w [(Y, #[.slice b4 B2.length k4, .int .i64 F2, .slice d4 L2.length j4, .int .i64 s2], 28), (X, #[.slice b3 B2.length k3, .int .i64 F2, .slice d3 L2.length j3, .int .i64 s2], 28), (P + 1, #[.int .i64 k, .int .i64 p, .int .i64 n, .string D, .int .i64 m], 35), (P, #[.slice aB B.length kB, .int .i64 F, .slice aL L.length kL, .int .i64 s], 28)] [(b4, B2), (b3, B2), (aB, B)] [(d4, L2), (d3, L2), (aL, L)] l2 c2 a2 v) => sgoodV_any aB aL kB kL B F L s v ⟨HN.out.1, HN.out.2.1⟩ (h.t aB B (by simp)) (h.r aL L (by simp)))
  have HGX := hid (fun v (h : S6 w [(Y, #[.slice b4 B2.length k4, .int .i64 F2, .slice d4 L2.length j4, .int .i64 s2], 28), (X, #[.slice b3 B2.length k3, .int .i64 F2, .slice d3 L2.length j3, .int .i64 s2], 28), (P + 1, #[.int .i64 k, .int .i64 p, .int .i64 n, .string D, .int .i64 m], 35), (P, #[.slice aB B.length kB, .int .i64 F, .slice aL L.length kL, .int .i64 s], 28)] [(b4, B2), (b3, B2), (aB, B)] [(d4, L2), (d3, L2), (aL, L)] l2 c2 a2 v) => igoodV_any b3 d3 k3 j3 B2 F2 L2 s2 v ⟨Nat.le_trans HN2.out.1 (by decide), Nat.le_trans HN2.out.2 (by decide)⟩ (h.t b3 B2 (by simp)) (h.r d3 L2 (by simp)))
  have HBA := hid (fun v (h : S6 w [(Y, #[.slice b4 B2.length k4, .int .i64 F2, .slice d4 L2.length j4, .int .i64 s2], 28), (X, #[.slice b3 B2.length k3, .int .i64 F2, .slice d3 L2.length j3, .int .i64 s2], 28), (P + 1, #[.int .i64 k, .int .i64 p, .int .i64 n, .string D, .int .i64 m], 35), (P, #[.slice aB B.length kB, .int .i64 F, .slice aL L.length kL, .int .i64 s], 28)] [(b4, B2), (b3, B2), (aB, B)] [(d4, L2), (d3, L2), (aL, L)] l2 c2 a2 v) => (iblocksV_any aB aL kB kL B F L s v ⟨HN.out.1, HN.out.2.1⟩ (h.t aB B (by simp)) (h.r aL L (by simp))).mono fun e w' h => blOut_any h)
  have HBB := hid (fun v (h : S6 w [(Y, #[.slice b4 B2.length k4, .int .i64 F2, .slice d4 L2.length j4, .int .i64 s2], 28), (X, #[.slice b3 B2.length k3, .int .i64 F2, .slice d3 L2.length j3, .int .i64 s2], 28), (P + 1, #[.int .i64 k, .int .i64 p, .int .i64 n, .string D, .int .i64 m], 35), (P, #[.slice aB B.length kB, .int .i64 F, .slice aL L.length kL, .int .i64 s], 28)] [(b4, B2), (b3, B2), (aB, B)] [(d4, L2), (d3, L2), (aL, L)] l2 c2 a2 v) => (iblocksV_any b3 d3 k3 j3 B2 F2 L2 s2 v ⟨Nat.le_trans HN2.out.1 (by decide), Nat.le_trans HN2.out.2 (by decide)⟩ (h.t b3 B2 (by simp)) (h.r d3 L2 (by simp))).mono fun e w' h => blOut_any h)
  have HBL : Hid ((blV B F L s).length ≤ 1048576) := by
    show _ ≤ _
    unfold blV
    cases goodV B F L s
    · exact Nat.zero_le _
    · show (doL B L).length ≤ _
      rw [doL_len]
      exact HN.out.1
  have HSS : Hid (∀ v, Below w6.heap.size w6 v → v.cell? ⟨P, 0, none⟩ = some (.slice aB B.length kB) ∧ v.cell? ⟨P, 1, none⟩ = some (.int .i64 F) ∧ v.cell? ⟨P, 2, none⟩ = some (.slice aL L.length kL) ∧ v.cell? ⟨P, 3, none⟩ = some (.int .i64 s) ∧ v.cell? ⟨X, 0, none⟩ = some (.slice b3 B2.length k3) ∧ v.cell? ⟨X, 1, none⟩ = some (.int .i64 F2) ∧ v.cell? ⟨X, 2, none⟩ = some (.slice d3 L2.length j3) ∧ v.cell? ⟨X, 3, none⟩ = some (.int .i64 s2) ∧ v.cell? ⟨Y, 0, none⟩ = some (.slice b4 B2.length k4) ∧ v.cell? ⟨Y, 1, none⟩ = some (.int .i64 F2) ∧ v.cell? ⟨Y, 2, none⟩ = some (.slice d4 L2.length j4) ∧ v.cell? ⟨Y, 3, none⟩ = some (.int .i64 s2)) := fun v g => by
    have h := HS7.out.on g
    obtain ⟨x0, x1, x2, x3⟩ := bx4 (h.b P #[.slice aB B.length kB, .int .i64 F, .slice aL L.length kL, .int .i64 s] 28 (by simp))
    obtain ⟨y0, y1, y2, y3⟩ := bx4 (h.b X #[.slice b3 B2.length k3, .int .i64 F2, .slice d3 L2.length j3, .int .i64 s2] 28 (by simp))
    obtain ⟨z0, z1, z2, z3⟩ := bx4 (h.b Y #[.slice b4 B2.length k4, .int .i64 F2, .slice d4 L2.length j4, .int .i64 s2] 28 (by simp))
    exact ⟨x0, x1, x2, x3, y0, y1, y2, y3, z0, z1, z2, z3⟩
  have BD : Below w6.heap.size w6 w6.drew := (Below.refl _ _).drew
  generalize hg0 : goodV B F L s = g0 at *
  generalize hg1 : goodV B2 F2 L2 s2 = g1 at *
  generalize hv0 : blV B F L s = T1 at *
  generalize hv1 : blV B2 F2 L2 s2 = T2 at *
  clear hg0 hg1 hv0 hv1
  have hgk : (g0 != g0) = false := by cases g0 <;> rfl
  clear HS6 HR4
  go_upto_region 6 with fail
  go_cut [77] (fun s77 wc => s77 = .bool false ∧ S6 w [(Y, #[.slice b4 B2.length k4, .int .i64 F2, .slice d4 L2.length j4, .int .i64 s2], 28), (X, #[.slice b3 B2.length k3, .int .i64 F2, .slice d3 L2.length j3, .int .i64 s2], 28), (P + 1, #[.int .i64 k, .int .i64 p, .int .i64 n, .string D, .int .i64 m], 35), (P, #[.slice aB B.length kB, .int .i64 F, .slice aL L.length kL, .int .i64 s], 28)] [(b4, B2), (b3, B2), (aB, B)] [(d4, L2), (d3, L2), (aL, L)] l2 c2 a2 wc)
  case first =>
    as_aux_lemma =>
      have d0 := HSS.out _ BD
      go_region_held (fun v => v.cell? ⟨P, 0, none⟩ = some (.slice aB B.length kB) ∧ v.cell? ⟨P, 1, none⟩ = some (.int .i64 F) ∧ v.cell? ⟨P, 2, none⟩ = some (.slice aL L.length kL) ∧ v.cell? ⟨P, 3, none⟩ = some (.int .i64 s) ∧ v.cell? ⟨X, 0, none⟩ = some (.slice b3 B2.length k3) ∧ v.cell? ⟨X, 1, none⟩ = some (.int .i64 F2) ∧ v.cell? ⟨X, 2, none⟩ = some (.slice d3 L2.length j3) ∧ v.cell? ⟨X, 3, none⟩ = some (.int .i64 s2) ∧ v.cell? ⟨Y, 0, none⟩ = some (.slice b4 B2.length k4) ∧ v.cell? ⟨Y, 1, none⟩ = some (.int .i64 F2) ∧ v.cell? ⟨Y, 2, none⟩ = some (.slice d4 L2.length j4) ∧ v.cell? ⟨Y, 3, none⟩ = some (.int .i64 s2)) (first | exact HSS.out _ (by with_reducible assumption)) (first | (go_at_call 9; refine (HSV.out _ (HS7.out.on BD)).mono ?_; rintro e w7 ⟨rfl, b7⟩; have B7 : Below w6.heap.size w6 w7 := BD.trans (b7.mono BD.size)) | (go_at_call 20; refine (HGS.out _ (HS7.out.on B8)).mono ?_; rintro e w9 ⟨rfl, b9⟩; have B9 : Below w6.heap.size w6 w9 := B8.trans (b9.mono B8.size)) | (go_at_call 13; refine (HGI.out _ (HS7.out.on B7)).mono ?_; rintro e w8 ⟨rfl, b8⟩; have B8 : Below w6.heap.size w6 w8 := B7.trans (b8.mono B7.size)))
      all_goals
        have HS8 := hid (HS7.out.on B9)
        clear d0 b7 b8 b9 B7 B8 B9
        go_wp2_with fail
        go_meet
        case rel => exact ⟨rfl, HS8.out⟩
  case rest =>
    as_aux_lemma =>
      obtain ⟨rfl, hcut⟩ := hcut
      have HS8 := hid hcut
      clear hcut HSS BD HSV HGI HGS HS7 hgk hW
      go_upto_if 78 with fail
      go_cut [11, 12, 13, 14] (fun _ _ _ _ wd => S6 w [] [] [] l2 c2 a2 wd)
      case first =>
        as_aux_lemma =>
          cases ok
          · go_wp2_with fail
            go_meet
            case rel => exact HS8.out.bare
          · obtain ⟨e0, e1, e2⟩ := HTO.out rfl
            subst e0 e1
            have HE2 := hid e2
            clear e2 HTO
            obtain ⟨x0, x1, x2, x3⟩ := bx4 (HS8.out.b P #[.slice aB B.length kB, .int .i64 F, .slice aL L.length kL, .int .i64 s] 28 (by simp))
            go_wp2_with fail
            refine (HBA.out _ HS8.out).mono ?_
            rintro e w3 ⟨q1, r1, rfl, hs, _, hb⟩
            have HS9 := hid (HS8.out.on hb)
            have HQ1 := hid hs
            clear x0 x1 x2 x3 HS8 hb hs HBA
            obtain ⟨x0, x1, x2, x3⟩ := bx4 (HS9.out.b X #[.slice b3 B2.length k3, .int .i64 F2, .slice d3 L2.length j3, .int .i64 s2] 28 (by simp))
            go_wp2_with fail
            refine (HBB.out _ HS9.out).mono ?_
            rintro e w4 ⟨q2, r2, rfl, hs, _, hb⟩
            have HS10 := hid (HS9.out.on hb)
            have HQ1' := hid ((HQ1.out.below hb).mono hb.size)
            have HQ2 := hid hs
            clear x0 x1 x2 x3 HS9 hb hs HBB HQ1
            obtain ⟨x0, x1, x2, x3⟩ := bx4 (HS10.out.b X #[.slice b3 B2.length k3, .int .i64 F2, .slice d3 L2.length j3, .int .i64 s2] 28 (by simp))
            go_wp2_with fail
            refine (HGX.out _ HS10.out).mono ?_
            rintro e w7 ⟨rfl, hb⟩
            have HS11 := hid (HS10.out.on hb)
            have HU1 := hid ((HQ1'.out.below hb).mono hb.size)
            have HU2 := hid ((HQ2.out.below hb).mono hb.size)
            clear x0 x1 x2 x3 HS10 hb HQ1' HQ2 HGX
            obtain ⟨y0, y1, y2, y3, y4⟩ := bx5 (HS11.out.b (P + 1) #[.int .i64 k, .int .i64 p, .int .i64 n, .string D, .int .i64 m] 35 (by simp))
            by_cases hk3 : k = 3 ∨ k = 4 ∨ k = 6
            · have e := HE2.out hk3
              subst e
              have HST := hid (sameTexts_same q1 q2 r1 r2 T2 w7 HBL.out HU1.out HU2.out)
              rcases hk3 with rfl | rfl | rfl
              all_goals
                go_wp2_with fail
                refine HST.out.mono ?_
                rintro e w8 ⟨rfl, hb⟩
                have HS12 := hid (HS11.out.on hb).bare
                clear hb HS11
                go_wp2_with fail
                go_meet
                case rel => exact HS12.out
            · have n3 : (k == 3) = false := beq_false_of_ne (fun e => hk3 (Or.inl e))
              have n4 : (k == 4) = false := beq_false_of_ne (fun e => hk3 (Or.inr (Or.inl e)))
              have n6 : (k == 6) = false := beq_false_of_ne (fun e => hk3 (Or.inr (Or.inr e)))
              clear hk3
              go_wp2_with fail
              go_meet
              case rel => exact HS11.out.bare
      case rest =>
        as_aux_lemma =>
          have HS := hid hcut
          clear hcut HS8 HTO HGX HBA HBB HBL HN HN2 hbk
          go_wp2_with fail
          refine (drawReadBlocks_any l2 c2 a2 _ HS.out.draw).mono ?_
          rintro e v1 ⟨⟨B9, F9, L9, s9⟩, aB9, kB9, aL9, kL9, p9, n9, rfl, p0, p1, n0, n1, hv, hb⟩
          have HT1 : Hid (S6 w [] [(aB9, B9)] [(aL9, L9)] l2 c2 a2 v1) := ((HS.out.on hb).addR hv.rs).addT hv.ss
          have HN : Hid (B9.length ≤ 1048576 ∧ L9.length ≤ 1048576) := ⟨Nat.le_trans (Nat.le_of_eq hv.n16) (by decide), Nat.le_trans hv.n40 (by decide)⟩
          have HZ8 : Hid (∀ t ∈ blV B9 F9 L9 s9, t.size ≤ 8) := by
            show ∀ t ∈ _, _
            unfold blV
            cases goodV B9 F9 L9 s9
            · exact fun t ht => by cases ht
            · exact doL_bytes L9 B9 hv.z8
          clear HS hb hv p0 p1 n0 n1
          have HT2 := hid (HT1.out.box #[.slice aB9 B9.length kB9, .int .i64 F9, .slice aL9 L9.length kL9, .int .i64 s9] 28)
          generalize hQ : v1.heap.size = Q at HT2
          generalize hW : v1.alloc (.cells #[.slice aB9 B9.length kB9, .int .i64 F9, .slice aL9 L9.length kL9, .int .i64 s9] 28) = v2 at *
          have HRI := hid (fun v (h : S6 w [(Q, #[.slice aB9 B9.length kB9, .int .i64 F9, .slice aL9 L9.length kL9, .int .i64 s9], 28)] [(aB9, B9)] [(aL9, L9)] l2 c2 a2 v) => iread_any aB9 aL9 kB9 kL9 B9 F9 L9 s9 p9 n9 v HN.out (h.t aB9 B9 (by simp)) (h.r aL9 L9 (by simp)))
          have HRS := hid (fun v (h : S6 w [(Q, #[.slice aB9 B9.length kB9, .int .i64 F9, .slice aL9 L9.length kL9, .int .i64 s9], 28)] [(aB9, B9)] [(aL9, L9)] l2 c2 a2 v) => sread_any aB9 aL9 kB9 kL9 B9 F9 L9 s9 p9 n9 v HN.out (h.t aB9 B9 (by simp)) (h.r aL9 L9 (by simp)))
          have HBI := hid (fun v (h : S6 w [(Q, #[.slice aB9 B9.length kB9, .int .i64 F9, .slice aL9 L9.length kL9, .int .i64 s9], 28)] [(aB9, B9)] [(aL9, L9)] l2 c2 a2 v) => (iblocksV_any aB9 aL9 kB9 kL9 B9 F9 L9 s9 v HN.out (h.t aB9 B9 (by simp)) (h.r aL9 L9 (by simp))).mono fun e w' h => blOut_any h)
          have HBS := hid (fun v (h : S6 w [(Q, #[.slice aB9 B9.length kB9, .int .i64 F9, .slice aL9 L9.length kL9, .int .i64 s9], 28)] [(aB9, B9)] [(aL9, L9)] l2 c2 a2 v) => (sblocks_any aB9 aL9 kB9 kL9 B9 F9 L9 s9 v HN.out (h.t aB9 B9 (by simp)) (h.r aL9 L9 (by simp))).mono fun e w' h => blOut_any h)
          have HMI := hid (fun v (h : S6 w [(Q, #[.slice aB9 B9.length kB9, .int .i64 F9, .slice aL9 L9.length kL9, .int .i64 s9], 28)] [(aB9, B9)] [(aL9, L9)] l2 c2 a2 v) => imark_any aB9 aL9 kB9 kL9 B9 F9 L9 s9 v HN.out (h.t aB9 B9 (by simp)) (h.r aL9 L9 (by simp)))
          have HMS := hid (fun v (h : S6 w [(Q, #[.slice aB9 B9.length kB9, .int .i64 F9, .slice aL9 L9.length kL9, .int .i64 s9], 28)] [(aB9, B9)] [(aL9, L9)] l2 c2 a2 v) => smark_any aB9 aL9 kB9 kL9 B9 F9 L9 s9 v HN.out (h.t aB9 B9 (by simp)) (h.r aL9 L9 (by simp)))
          have HRD : Hid (okRd B9 F9 L9 s9 p9 n9 = true → goodV B9 F9 L9 s9 = true ∧ ∃ pn nn : Nat, p9 = (pn : Int) ∧ n9 = (nn : Int) ∧ 1 ≤ nn ∧ pn + nn ≤ 16 ∧ (blV B9 F9 L9 s9).length = 16 ∧ rdT B9 F9 L9 s9 p9 n9 = catT (((blV B9 F9 L9 s9).drop pn).take nn)) := rd_of
          have HBL : Hid ((blV B9 F9 L9 s9).length ≤ 1048576) := by
            show _ ≤ _
            unfold blV
            cases goodV B9 F9 L9 s9
            · exact Nat.zero_le _
            · show (doL B9 L9).length ≤ _
              rw [doL_len]
              exact HN.out.1
          generalize rdT B9 F9 L9 s9 p9 n9 = RT at *
          generalize okRd B9 F9 L9 s9 p9 n9 = RO at *
          generalize blV B9 F9 L9 s9 = T at *
          generalize goodV B9 F9 L9 s9 = G at *
          generalize markV B9 F9 L9 s9 = MV at *
          have hrk : (RO != RO) = false := by cases RO <;> rfl
          have hgk : (G != G) = false := by cases G <;> rfl
          clear HT1
          obtain ⟨x0, x1, x2, x3⟩ := bx4 (HT2.out.b Q #[.slice aB9 B9.length kB9, .int .i64 F9, .slice aL9 L9.length kL9, .int .i64 s9] 28 (by simp))
          go_wp2_with fail
          refine (HRI.out _ HT2.out).mono ?_
          rintro e v3 ⟨rfl, hb⟩
          have HT3 := hid (HT2.out.on hb)
          clear x0 x1 x2 x3 hb HT2 HRI hW hQ
          obtain ⟨x0, x1, x2, x3⟩ := bx4 (HT3.out.b Q #[.slice aB9 B9.length kB9, .int .i64 F9, .slice aL9 L9.length kL9, .int .i64 s9] 28 (by simp))
          go_wp2_with fail
          refine (HRS.out _ HT3.out).mono ?_
          rintro e v4 ⟨rfl, hb⟩
          have HT4 := hid (HT3.out.on hb)
          clear x0 x1 x2 x3 hb HT3 HRS
          obtain ⟨x0, x1, x2, x3⟩ := bx4 (HT4.out.b Q #[.slice aB9 B9.length kB9, .int .i64 F9, .slice aL9 L9.length kL9, .int .i64 s9] 28 (by simp))
          go_wp2_with fail
          refine (HBI.out _ HT4.out).mono ?_
          rintro e v5 ⟨q1, r1, rfl, hs, hr1, hb⟩
          have HT5 := hid (HT4.out.on hb)
          have HU1 := hid hs
          have HRC := hid hr1
          clear x0 x1 x2 x3 hb hs HT4 HBI hr1
          obtain ⟨x0, x1, x2, x3⟩ := bx4 (HT5.out.b Q #[.slice aB9 B9.length kB9, .int .i64 F9, .slice aL9 L9.length kL9, .int .i64 s9] 28 (by simp))
          go_wp2_with fail
          refine (HBS.out _ HT5.out).mono ?_
          rintro e v6 ⟨q2, r2, rfl, hs, _, hb⟩
          have HT6 : Hid (S6 w [(Q, #[.slice aB9 B9.length kB9, .int .i64 F9, .slice aL9 L9.length kL9, .int .i64 s9], 28)] [(q2, T), (q1, T), (aB9, B9)] [(aL9, L9)] l2 c2 a2 v6) := ((HT5.out.on hb).addT ((HU1.out.below hb).mono hb.size)).addT hs
          have HT6a := hid (HT5.out.on hb)
          clear x0 x1 x2 x3 hb hs HT5 HBS HU1
          obtain ⟨x0, x1, x2, x3⟩ := bx4 (HT6.out.b Q #[.slice aB9 B9.length kB9, .int .i64 F9, .slice aL9 L9.length kL9, .int .i64 s9] 28 (by simp))
          go_wp2_with fail
          refine (HMI.out _ HT6a.out).mono ?_
          rintro e v7 ⟨rfl, hb⟩
          have HT7 := hid (HT6.out.on hb)
          have HT7a := hid (HT6a.out.on hb)
          clear x0 x1 x2 x3 hb HT6 HT6a HMI
          obtain ⟨x0, x1, x2, x3⟩ := bx4 (HT7.out.b Q #[.slice aB9 B9.length kB9, .int .i64 F9, .slice aL9 L9.length kL9, .int .i64 s9] 28 (by simp))
          go_wp2_with fail
          refine (HMS.out _ HT7a.out).mono ?_
          rintro e v8 ⟨rfl, hb⟩
          have HT8 := hid (HT7.out.on hb)
          clear x0 x1 x2 x3 hb HT7 HT7a HMS
          go_wp2_with fail
          refine (drawRecordFor_any l2 c2 a2 _ HT8.out.draw).mono ?_
          rintro e v9 ⟨⟨k8, p8, n8, D8, m8⟩, rfl, _, hb⟩
          have HT9 := hid (HT8.out.on hb)
          clear hb HT8
          simp only [oval]
          have HT10 := hid (HT9.out.box #[.int .i64 k8, .int .i64 p8, .int .i64 n8, .string D8, .int .i64 m8] 35)
          generalize hQ : v9.heap.size = Q2 at HT10
          generalize hW : v9.alloc (.cells #[.int .i64 k8, .int .i64 p8, .int .i64 n8, .string D8, .int .i64 m8] 35) = v10 at *
          have HFI := hid (irec_any k8 p8 n8 m8 D8)
          have HFS := hid (srec_any k8 p8 n8 m8 D8)
          unfold ForOut at HFI HFS
          obtain ⟨rk, rp, rn, rD, hrv⟩ := recV_form ⟨k8, p8, n8, D8, m8⟩
          rw [hrv] at HFI HFS
          generalize recOk ⟨k8, p8, n8, D8, m8⟩ = FO at *
          have hfk : (FO != FO) = false := by cases FO <;> rfl
          clear hrv HT9
          obtain ⟨x0, x1, x2, x3, x4⟩ := bx5 (HT10.out.b Q2 #[.int .i64 k8, .int .i64 p8, .int .i64 n8, .string D8, .int .i64 m8] 35 (by simp))
          go_wp2_with fail
          refine (HFI.out _).mono ?_
          rintro e v11 ⟨rfl, hb⟩
          have HT11 := hid (HT10.out.on hb)
          clear x0 x1 x2 x3 x4 hb HT10 HFI hW hQ
          have HT12 := hid (HT11.out.box #[.int .i64 rk, .int .i64 rp, .int .i64 rn, .string rD] 37)
          generalize hQ : v11.heap.size = Q3 at HT12
          generalize hW : v11.alloc (.cells #[.int .i64 rk, .int .i64 rp, .int .i64 rn, .string rD] 37) = v12 at *
          clear HT11
          obtain ⟨x0, x1, x2, x3, x4⟩ := bx5 (HT12.out.b Q2 #[.int .i64 k8, .int .i64 p8, .int .i64 n8, .string D8, .int .i64 m8] 35 (by simp))
          go_wp2_with fail
          refine (HFS.out _).mono ?_
          rintro e v13 ⟨rfl, hb⟩
          have HT13 := hid (HT12.out.on hb)
          clear x0 x1 x2 x3 x4 hb HT12 HFS hW hQ
          have HT14 := hid (HT13.out.box #[.int .i64 rk, .int .i64 rp, .int .i64 rn, .string rD] 37)
          generalize hQ : v13.heap.size = Q4 at HT14
          generalize hW : v13.alloc (.cells #[.int .i64 rk, .int .i64 rp, .int .i64 rn, .string rD] 37) = v14 at *
          clear HT13
          have HST := hid (sameTexts_same q1 q2 r1 r2 T v14 HBL.out (HT14.out.t q1 T (by simp)) (HT14.out.t q2 T (by simp)))
          go_wp2_with fail
          refine HST.out.mono ?_
          rintro e v15 ⟨rfl, hb⟩
          have HT15 := hid (HT14.out.on hb)
          obtain ⟨x0, x1, x2, x3⟩ := bx4 (HT15.out.b Q3 #[.int .i64 rk, .int .i64 rp, .int .i64 rn, .string rD] 37 (by simp))
          obtain ⟨y0, y1, y2, y3⟩ := bx4 (HT15.out.b Q4 #[.int .i64 rk, .int .i64 rp, .int .i64 rn, .string rD] 37 (by simp))
          clear hb HT14 HST hW hQ
          go_upto_if 212 with fail
          go_cut [35, 36, 37] (fun _ _ _ wd => S6 w [] [] [] l2 c2 a2 wd)
          case first =>
            as_aux_lemma =>
              clear x0 x1 x2 x3 y0 y1 y2 y3
              cases RO
              · go_wp2_with fail
                go_meet
                case rel => exact HT15.out.bare
              · obtain ⟨eG, pn, nn, rfl, rfl, n1, hpn, hTl, eR⟩ := HRD.out rfl
                subst eG eR
                have HIT := hid (HT15.out.t q1 T (by simp))
                obtain ⟨b, off, rfl, hb, hc⟩ := HIT.out.cell (by omega)
                have hr1 := HRC.out
                have hz8 := HZ8.out
                have HC := hid hc
                have HT16 := hid HT15.out.bare
                have HTL := hid hTl
                have HZ : Hid (∀ j (hj : j < nn), ∃ h : pn + j < T.length, ((T.drop pn).take (j + 1)) = (T.drop pn).take j ++ [T[pn + j]]) := fun j hj => by
                  have hl : pn + j < T.length := by omega
                  refine ⟨hl, ?_⟩
                  rw [List.take_succ_eq_append_getElem (by rw [List.length_drop]; omega), List.getElem_drop]
                have hcap : pn + nn ≤ r1 := by omega
                have hcap1 : (pn : Int) + (nn : Int) ≤ (r1 : Int) := by omega
                have hpn9 : pn ≤ 16 := by omega
                have hnn9 : nn ≤ 16 := by omega
                have HCAT : Hid (catT ((T.drop pn).take nn) = catT ((T.drop pn).take nn)) := rfl
                have HSM : Hid (∀ j, j ≤ nn → (catT ((T.drop pn).take j)).size ≤ 1000) := fun j hj => cat_small T hz8 pn j (by omega)
                clear hc hTl HRD HT15 hz8
                go_wp2_with fail
                go_loopw [35, 37, 220] (fun t _ v wr => ∃ j : Nat, j ≤ nn ∧ v = .int .i64 j ∧ t = .string (catT ((T.drop pn).take j)) ∧ wr = v15) (fun _ _ v _ => nn - (ivl6 v).toNat)
                case atStart => exact ⟨0, Nat.zero_le _, rfl, rfl, rfl⟩
                case round =>
                  obtain ⟨j, hj, rfl, rfl, hwr⟩ := hrel
                  subst hwr
                  by_cases hlt : j < nn
                  · obtain ⟨hl, he⟩ := HZ.out j hlt
                    have c0 := HC.out (pn + j) hl
                    have HE : Hid (catT ((T.drop pn).take j) ++ T[pn + j] = catT ((T.drop pn).take (j + 1))) := by show _ = _; rw [he, catT_snoc]
                    have c1 : wr.cell? ⟨b, off + pn + j, none⟩ = some (.string T[pn + j]) := by rw [Nat.add_assoc]; exact c0
                    have hsz := HSM.out j hj
                    have hs2 : T[pn + j].size ≤ 8 := HZ8.out _ (List.getElem_mem hl)
                    clear he
                    generalize T[pn + j] = t9 at *
                    generalize catT ((T.drop pn).take j) = c9 at *
                    go_wp2_with fail
                    go_roundw
                    case rel => exact ⟨j + 1, by omega, by go_num, by rw [HE.out], by trivial⟩
                    case measure => simp [ivl6]; omega
                  · obtain rfl : j = nn := by omega
                    go_wp2_with fail
                    go_meet
                    case rel => exact HT16.out
          case rest =>
            as_aux_lemma =>
              have HS := hid hcut
              clear hcut x0 x1 x2 x3 y0 y1 y2 y3 HT15 HRD HRC HBL HN hrk hgk hfk HZ8
              go_wp2_with fail
              refine (inew_any _).mono ?_
              rintro e u1 ⟨b6, c6, rfl, o6, hb⟩
              have HR6 := hid o6.read
              have HU1 : Hid (S6 w [] [(b6, blankT)] [(none, [])] l2 c2 a2 u1) := ((HS.out.on hb).addR HR6.out.2).addT HR6.out.1
              clear HS hb o6 HR6
              have HU2 := hid (HU1.out.box #[.slice b6 16 c6, .int .i64 0, .slice none 0 0, .int .i64 0] 28)
              clear HU1
              go_wp2_with fail
              generalize u1.alloc (.cells #[.slice b6 16 c6, .int .i64 0, .slice none 0 0, .int .i64 0] 28) = u2 at *
              generalize u1.heap.size = Q6 at *
              have HGN : Hid (∀ v, S6 w [(Q6, #[.slice b6 16 c6, .int .i64 0, .slice none 0 0, .int .i64 0], 28)] [(b6, blankT)] [(none, [])] l2 c2 a2 v → Calls Try.prog 13 #[.agg #[.slice b6 16 c6, .int .i64 0, .slice none 0 0, .int .i64 0]] v fun e w' => e = .returned (.bool true) ∧ Below v.heap.size v w') := fun v h => by
                have := igoodV_any b6 none c6 0 blankT 0 [] 0 v (by decide) (h.t b6 blankT (by simp)) (h.r none [] (by simp))
                rw [good_new] at this
                exact this
              have HSN : Hid (∀ v b7 c7, S6 w [(Q6, #[.slice b6 16 c6, .int .i64 0, .slice none 0 0, .int .i64 0], 28)] [(b6, blankT)] [(none, [])] l2 c2 a2 v → Ss v.heap.size b7 blankT v → Calls Try.prog 9 #[.agg #[.slice b6 16 c6, .int .i64 0, .slice none 0 0, .int .i64 0], .agg #[.slice b7 16 c7, .int .i64 0, .slice none 0 0, .int .i64 0]] v fun e w' => e = .returned (.bool true) ∧ Below v.heap.size v w') := fun v b7 c7 h h7 => sameVolume_same b6 b7 none none c6 c7 0 0 blankT 0 [] 0 v (by decide) (by decide) (h.t b6 blankT (by simp)) h7 (h.r none [] (by simp)) (h.r none [] (by simp))
              have HSS : Hid (∀ v, Below u2.heap.size u2 v → v.cell? ⟨Q6, 0, none⟩ = some (.slice b6 16 c6) ∧ v.cell? ⟨Q6, 1, none⟩ = some (.int .i64 0) ∧ v.cell? ⟨Q6, 2, none⟩ = some (.slice none 0 0) ∧ v.cell? ⟨Q6, 3, none⟩ = some (.int .i64 0)) := fun v g => bx4 ((HU2.out.on g).b Q6 #[.slice b6 16 c6, .int .i64 0, .slice none 0 0, .int .i64 0] 28 (by simp))
              have BD : Below u2.heap.size u2 u2.drew := (Below.refl _ _).drew
              have d0 := HSS.out _ BD
              go_region_held (fun v => v.cell? ⟨Q6, 0, none⟩ = some (.slice b6 16 c6) ∧ v.cell? ⟨Q6, 1, none⟩ = some (.int .i64 0) ∧ v.cell? ⟨Q6, 2, none⟩ = some (.slice none 0 0) ∧ v.cell? ⟨Q6, 3, none⟩ = some (.int .i64 0)) (first | exact HSS.out _ (by with_reducible assumption)) (first | (go_at_call 13; refine (HGN.out _ (HU2.out.on BD)).mono ?_; rintro e u3 ⟨rfl, b3⟩; have B3 : Below u2.heap.size u2 u3 := BD.trans (b3.mono BD.size)) | (go_at_call 9; refine (HSN.out _ b7 c7 (HU2.out.on B4) HR7.out.1).mono ?_; rintro e u5 ⟨rfl, b5⟩; have B5 : Below u2.heap.size u2 u5 := B4.trans (b5.mono B4.size)) | (go_at_call 29; refine (snew_any _).mono ?_; rintro e u4 ⟨b7, c7, rfl, o7, b4⟩; have HR7 := hid o7.read; have B4 : Below u2.heap.size u2 u4 := B3.trans (b4.mono B3.size); clear o7))
              all_goals
                have HU5 := hid (HU2.out.on B5)
                go_wp2_with fail
                go_ret
                exact ⟨rfl, HU5.out.below⟩
set_option maxHeartbeats 400000 in
theorem volumes_big (l1 c1 l2 c2 : Nat) (a1 a2 : Option Addr) (w : World) (h1 : l1 ≤ 4611686018427387903) (h2 : l2 ≤ 4611686018427387903) (h12 : ¬ l1 + l2 ≤ 1048576) :
    Calls Try.prog 4 #[.slice a1 l1 c1, .slice a2 l2 c2] w fun e w' => e = .returned (.bool true) ∧ Below w.heap.size w w' := by
  have hd : decide ((1048576 : Int) < (l1 : Int) + (l2 : Int)) = true := by simp; omega
  go_enter Try.func4, Try.ntmps4
  go_wp2_with fail
  go_ret
  exact ⟨rfl, Below.refl _ _⟩
end Go.Proofs.Ytlbhfgcpflhccaa
namespace Go.Proofs.Ytlbhfgcpflhccaa.fnVolumes
open Go.ChangeShapes Go.WideShapes Go.ChangeAt Go.RowKit
set_option maxRecDepth 100000
theorem own : ownKnob Try.prog.godebug = none := by kernel_rfl
theorem laidOut : laidOutB Try.prog = true := by kernel_rfl
theorem cells5 : Try.prog.cellsOf 5 = 1 := by kernel_rfl
theorem bytes5 : Try.prog.bytesOf 5 = 1 := by kernel_rfl
theorem lifted (os : Go.Os) (started : os.Started) (H : Type) (enc : TypeId × Value → H) :
    ReturnsInHanded {} Try.checked os 4 .any (Rows.fnVolumesSpec.pre6 enc Try.prog Try.f4 Rows.fnVolumesRow.domain false) (Rows.fnVolumesSpec.post enc Try.prog Try.f4 false true false false) := by
  refine returnsInHanded_of_change_sized (C := Try.checked) own started (by kernel_rfl) Try.func4
    (ChangeSpec.witness6 (enc := enc) (C := Try.checked) false ⟨#[], #[.slice none 0 0, .slice none 0 0], []⟩ 8 (by kernel_rfl) (by kernel_rfl) (by kernel_rfl) (by kernel_rfl)) ?_
  intro W base args ds gs before hval0 hW hcnd hsz _
  have hval : ∀ (j : Nat) t v, Try.f4.params[j]? = some t → args[j]? = some v → Value.okWide Try.prog W .any base t v := hval0
  have hW' := hW
  obtain ⟨p, q, hA0, hV, rfl, hfz, hnd⟩ := hW
  have hA : DataW.TrodAll enc Try.prog W 0 (fun _ => true) true Try.f4.params.toList args.toList ds p := hA0
  rw [Try.params4] at hA hval
  obtain ⟨v0, vs0, d0, ds0, p0, q0, hargs, rfl, rfl, h0, r0⟩ := trodAll_cons hA
  obtain ⟨v1, vs1, d1, ds1, p1, q1, rfl, rfl, rfl, h1, r1⟩ := trodAll_cons r0
  obtain ⟨rfl, rfl, rfl⟩ := trodAll_nil r1
  obtain rfl : args = #[v0, v1] := by cases args; simp_all
  obtain ⟨rfl, rfl⟩ := trodVars_none hV
  obtain ⟨a0, l0, c0, rfl⟩ := okWide_slice Try.underlying22 (hval 0 22 v0 rfl rfl)
  obtain ⟨a1, l1, c1, rfl⟩ := okWide_slice Try.underlying22 (hval 1 22 v1 rfl rfl)
  obtain ⟨e0, k0⟩ := code_of Try.underlying22 Try.underlying5 cells5 h0
  obtain ⟨e1, k1⟩ := code_of Try.underlying22 Try.underlying5 cells5 h1
  have b0 : l0 ≤ 4611686018427387903 := by
    rcases e0 with rfl | ⟨zs, z1, z2, rfl⟩
    · omega
    · exact code_len (j := 0) (t := 22) hsz z1 z2 rfl rfl Try.underlying22 bytes5
  have b1 : l1 ≤ 4611686018427387903 := by
    rcases e1 with rfl | ⟨zs, z1, z2, rfl⟩
    · omega
    · exact code_len (j := 1) (t := 22) hsz z1 z2 rfl rfl Try.underlying22 bytes5
  clear hA0 hval0
  have walk : Calls Try.prog 4 #[.slice a0 l0 c0, .slice a1 l1 c1] W fun e w' => e = .returned (.bool true) ∧ Below W.heap.size W w' := by
    by_cases hs : l0 + l1 ≤ 1048576
    · exact volumes_small l0 c0 l1 c1 a0 a1 W hs (k0 (by omega)) (k1 (by omega))
    · exact volumes_big l0 c0 l1 c1 a0 a1 W b0 b1 hs
  refine walk.mono fun e W' ⟨he, hg⟩ => ?_
  subst he
  exact ⟨_, rfl, law_post laidOut (by kernel_rfl) (by kernel_rfl) rfl (trodAll_mk1 (shut_bool Try.underlying4 _)) hW' hg⟩
end Go.Proofs.Ytlbhfgcpflhccaa.fnVolumes
namespace Go.Proofs.Ytlbhfgcpflhccaa
open Go.ChangeShapes Go.WideShapes Go.ChangeAt Go.RowKit
theorem fnVolumes_said : Rows.FnVolumesSaid :=
  OpenClaim.holds_of_wide 4 Try.f4 rfl rfl rfl rfl rfl rfl rfl ⟨rfl, rfl, rfl, rfl, rfl⟩ rfl rfl rfl rfl rfl (by kernel_rfl) Try.func4 (by kernel_rfl)
    (of_decide_eq_true (by kernel_rfl)) (by unfold Func.isWrapper; first | (rw [if_pos (by decide +kernel)]; kernel_rfl) | (rw [if_neg (by decide +kernel)]; exact ⟨rfl, rfl⟩))
    (fun os started H enc _ => fnVolumes.lifted os started H enc)
end Go.Proofs.Ytlbhfgcpflhccaa
