/- For every slice of bytes laws.FnVolume answers true, and it reads afterwards as it read before: of drawn ops a volume has what its records make, folding changes nothing, and a crash keeps what was flushed and a beginning of the rest; no condition. -/
import Derived.Test.YtlbhfgcpflhccaaQVa
import Derived.Test.YtlbhfgcpflhccaaQVb
import Derived.Maps.AppendAt
import Derived.Test.YtlbhfgcpflhccaaIDo
import Derived.Test.YtlbhfgcpflhccaaIIn
import Derived.Test.YtlbhfgcpflhccaaSIn
import Derived.Test.YtlbhfgcpflhccaaIGv
import Derived.Test.YtlbhfgcpflhccaaFoldI
import Derived.Test.YtlbhfgcpflhccaaOForI
import Derived.Deep.DeepCutAuto
import Derived.Deep.RegionHeld
import Derived.Laws.StructEq
import Derived.Test.YtlbhfgcpflhccaaRows
namespace Go.Proofs.Ytlbhfgcpflhccaa
set_option maxRecDepth 100000
open Go Go.ChangeShapes Go.WideShapes Go.ChangeAt Go.RowKit G00541
/-- what the model's play keeps -/
structure MP (w : World) (X : Nat) (v : Vol) (aB : Option Addr) (kB : Nat) (aL : Option Addr) (kL : Nat) (dv : Value) (d : List Bool) (wr : World) : Prop where
  be : Below w.heap.size w wr
  bz : wr.heap[w.heap.size]? = some (.cells #[.slice none 0 0, .int .i64 0, .slice none 0 0, .int .i64 0] 28)
  bv : wr.heap[X]? = some (.cells #[.slice aB v.1.length kB, .int .i64 v.2.1, .slice aL v.2.2.1.length kL, .int .i64 v.2.2.2] 28)
  ss : Ss wr.heap.size aB v.1 wr
  rs : Rs wr.heap.size aL v.2.2.1 wr
  tb : TB (X + 1) dv d wr
  wx : w.heap.size < X
theorem MP.on {w : World} {X : Nat} {v : Vol} {aB : Option Addr} {kB : Nat} {aL : Option Addr} {kL : Nat} {dv : Value} {d : List Bool} {wr w' : World} (h : MP w X v aB kB aL kL dv d wr) (g : Below wr.heap.size wr w') : MP w X v aB kB aL kL dv d w' :=
  ⟨h.be.trans (g.mono h.be.size), (g.block _ (kboxV h.bz)).trans h.bz, (g.block _ (kboxV h.bv)).trans h.bv, (h.ss.below g).mono g.size, (h.rs.below g).mono g.size, h.tb.below g, h.wx⟩
/-- one truth value is appended -/
theorem MP.push {w : World} {X : Nat} {v : Vol} {aB : Option Addr} {kB : Nat} {aL : Option Addr} {kL : Nat} {dv : Value} {d : List Bool} {wr : World} (h : MP w X v aB kB aL kL dv d wr) (b : Bool) (hm : d.length + 1 ≤ 10000) :
    ∃ v' w', (∀ ty, (Builtin.append_ #[29, 29] ty #[dv, .slice (some ⟨wr.heap.size, 0, none⟩) 1 1]).run Try.prog (wr.alloc (.cells #[.bool b] 4)) = .ok v' w') ∧ MP w X v aB kB aL kL v' (d ++ [b]) w' := by
  have hX := kboxV h.bv
  obtain ⟨v', w', r, ht, hg, ho⟩ := h.tb.push (by omega) b hm
  have gb := boxB wr (.cells #[.bool b] 4)
  have h1 := h.on gb
  have hlt : ∀ k, dv.ownBlock = some k → X + 1 ≤ k := fun k hk => (World.ownsRow.lt h.tb.row k hk).1
  have hk : ∀ q, q < (wr.alloc (.cells #[.bool b] 4)).heap.size → q ≤ X → w'.heap[q]? = (wr.alloc (.cells #[.bool b] 4)).heap[q]? := fun q h2 h3 => hg.block q h2 (fun e => by have := hlt q e.symm; omega)
  have hX1 := kboxV h1.bv
  have hwx := h.wx
  refine ⟨v', w', r, ⟨?_, (hk _ (kboxV h1.bz) (by omega)).trans h1.bz, (hk _ hX1 (Nat.le_refl _)).trans h1.bv, ss_apart h1.tb h1.ss (Nat.le_refl _) hg, rs_apart h1.tb h1.rs (Nat.le_refl _) hg, ht, hwx⟩⟩
  exact ⟨hg.os.trans h1.be.os, hg.tape.trans h1.be.tape, hg.output.trans h1.be.output, Nat.le_trans h1.be.size hg.size, fun q hq => (hk q (Nat.lt_of_lt_of_le hq h1.be.size) (by omega)).trans (h1.be.block q hq)⟩
/-- another volume is put into its box -/
theorem MP.put {w : World} {X : Nat} {v : Vol} {aB : Option Addr} {kB : Nat} {aL : Option Addr} {kL : Nat} {dv : Value} {d : List Bool} {wr : World} (h : MP w X v aB kB aL kL dv d wr) (u : Vol) (b1 : Option Addr) (j1 : Nat) (b2 : Option Addr) (j2 : Nat) (hs : Ss wr.heap.size b1 u.1 wr) (hr : Rs wr.heap.size b2 u.2.2.1 wr) :
    MP w X u b1 j1 b2 j2 dv d ((((wr.setCell ⟨X, 0, none⟩ (.slice b1 u.1.length j1)).setCell ⟨X, 1, none⟩ (.int .i64 u.2.1)).setCell ⟨X, 2, none⟩ (.slice b2 u.2.2.1.length j2)).setCell ⟨X, 3, none⟩ (.int .i64 u.2.2.2)) := by
  have hX := kboxV h.bv
  have hwx := h.wx
  have hk : ∀ q, q ≠ X → ((((wr.setCell ⟨X, 0, none⟩ (.slice b1 u.1.length j1)).setCell ⟨X, 1, none⟩ (.int .i64 u.2.1)).setCell ⟨X, 2, none⟩ (.slice b2 u.2.2.1.length j2)).setCell ⟨X, 3, none⟩ (.int .i64 u.2.2.2)).heap[q]? = wr.heap[q]? := fun q h1 => by
    rw [keepB _ _ _ _ _ h1, keepB _ _ _ _ _ h1, keepB _ _ _ _ _ h1, keepB _ _ _ _ _ h1]
  have hz : ((((wr.setCell ⟨X, 0, none⟩ (.slice b1 u.1.length j1)).setCell ⟨X, 1, none⟩ (.int .i64 u.2.1)).setCell ⟨X, 2, none⟩ (.slice b2 u.2.2.1.length j2)).setCell ⟨X, 3, none⟩ (.int .i64 u.2.2.2)).heap.size = wr.heap.size := by simp [World.setCell]
  have hc : ∀ R o, R ≠ X → ((((wr.setCell ⟨X, 0, none⟩ (.slice b1 u.1.length j1)).setCell ⟨X, 1, none⟩ (.int .i64 u.2.1)).setCell ⟨X, 2, none⟩ (.slice b2 u.2.2.1.length j2)).setCell ⟨X, 3, none⟩ (.int .i64 u.2.2.2)).cell? ⟨R, o, none⟩ = wr.cell? ⟨R, o, none⟩ := fun R o hR => by unfold World.cell?; simp only [hk R hR]
  refine ⟨setB (setB (setB (setB h.be _ _ (by omega) _) _ _ (by omega) _) _ _ (by omega) _) _ _ (by omega) _, (hk _ (by omega)).trans h.bz, ?_, ?_, ?_, h.tb.keep (fun k hk' => hk k (by have := (World.ownsRow.lt h.tb.row k hk').1; omega)), hwx⟩
  · have := box_set (box_set (box_set (box_set h.bv 0 (.slice b1 u.1.length j1)) 1 (.int .i64 u.2.1)) 2 (.slice b2 u.2.2.1.length j2)) 3 (.int .i64 u.2.2.2)
    simpa using this
  · refine ⟨fun h0 => ?_⟩
    obtain ⟨R, off, e, hR, hcc⟩ := GSl.cell hs h0
    have hne : R ≠ X := fun e2 => by
      subst e2
      have h1 := hcc 0 h0 0 (by decide)
      rw [List.getElem_map, box_cell h.bv] at h1
      rcases (show off = 0 ∨ off = 1 ∨ off = 2 ∨ off = 3 ∨ 4 ≤ off by omega) with r | r | r | r | r
      · subst r; simp [scell] at h1
      · subst r; simp [scell] at h1
      · subst r; simp [scell] at h1
      · subst r; simp [scell] at h1
      · rw [Array.getElem?_eq_none (by simp; omega)] at h1; simp [scell] at h1
    refine ⟨R, off, e, by rw [hz]; exact hR, fun i hi j hj => ?_⟩
    rw [hc _ _ hne]
    exact hcc i hi j hj
  · refine ⟨fun h0 => ?_⟩
    obtain ⟨R, off, e, hR, hcc⟩ := GSl.cell hr h0
    have hne : R ≠ X := fun e2 => by
      subst e2
      have h1 := hcc 0 h0 3 (by decide)
      rw [List.getElem_map, box_cell h.bv] at h1
      rcases (show off = 0 ∨ 1 ≤ off by omega) with r | r
      · subst r; simp [rcells] at h1
      · rw [Array.getElem?_eq_none (by simp; omega)] at h1; simp [rcells] at h1
    refine ⟨R, off, e, by rw [hz]; exact hR, fun i hi j hj => ?_⟩
    rw [hc _ _ hne]
    exact hcc i hi j hj
/-- l6Do's answer in one form -/
theorem SdOut.uni {P : Nat → Prop} {a1 : Option Addr} {n1 c1 : Nat} {F : Int} {a2 : Option Addr} {n2 c2 : Nat} {s : Int} {o : Option Vol} {w : World} {e : Ending} {w' : World} (h : SdOut P (.agg #[.slice a1 n1 c1, .int .i64 F, .slice a2 n2 c2, .int .i64 s]) o w e w') :
    ∃ b1 m1 j1 f b2 m2 j2 s9, e = .returned (.tuple #[.agg #[.slice b1 m1 j1, .int .i64 f, .slice b2 m2 j2, .int .i64 s9], .bool o.isSome]) ∧ Kp P w w' ∧ (∀ u : Vol, o = some u → m1 = u.1.length ∧ f = u.2.1 ∧ m2 = u.2.2.1.length ∧ s9 = u.2.2.2 ∧ Ss w'.heap.size b1 u.1 w' ∧ Rs w'.heap.size b2 u.2.2.1 w') := by
  cases o with
  | none => obtain ⟨h1, h2⟩ := h; exact ⟨_, _, _, _, _, _, _, _, h1, h2, fun u hu => by cases hu⟩
  | some v =>
    obtain ⟨aB, kB, aL, kL, h1, h2, h3, h4⟩ := h
    exact ⟨_, _, _, _, _, _, _, _, h1, h4, fun u hu => by cases hu; exact ⟨rfl, rfl, rfl, rfl, h2, h3⟩⟩
/-- nothing that was there at wo has turned -/
def BW (wo W : World) : Prop := Below wo.heap.size wo W
theorem BW.on {wo W W' : World} (h : BW wo W) (g : Below W.heap.size W W') : BW wo W' := Below.trans h (g.mono (Below.size h))
theorem BW.size {wo W : World} (h : BW wo W) : wo.heap.size ≤ W.heap.size := Below.size h
theorem BW.kp {P : Nat → Prop} {wo W W' : World} (h : BW wo W) (g : Kp P W W') (hP : ∀ q, P q → wo.heap.size ≤ q) : BW wo W' := Below.trans h (g.below _ hP (Below.size h))
set_option maxHeartbeats 2500000 in
theorem splay_yes (a : Option Addr) (cap : Nat) (l : List Op) (w : World) (hn : l.length ≤ 60) (hZ : Os w.heap.size a l w) :
    Calls Try.prog 7 #[.slice a l.length cap] w fun e w' => POut (runV l (newV, [])).1 (runV l (newV, [])).2 true w e w' := by
  have hd60 : decide ((60 : Int) < (l.length : Int)) = false := decide_eq_false (by omega)
  have g0 := boxB w (.cells #[.slice none 0 0, .int .i64 0, .slice none 0 0, .int .i64 0] 28)
  have k0 := heap_last w (.cells #[.slice none 0 0, .int .i64 0, .slice none 0 0, .int .i64 0] 28)
  have z0 := heap_size w (.cells #[.slice none 0 0, .int .i64 0, .slice none 0 0, .int .i64 0] 28)
  generalize hW0 : w.alloc (.cells #[.slice none 0 0, .int .i64 0, .slice none 0 0, .int .i64 0] 28) = w0 at *
  have HG0 := hid g0
  have HK0 := hid k0
  have HZ0 := hid z0
  have HZ := hid hZ
  clear g0 k0 z0 hZ
  go_enter Try.func7, Try.ntmps7
  go_wp2_with fail
  refine (snew_any _).mono ?_
  rintro e w1 ⟨b, c, rfl, o1, g1⟩
  have gX := boxB w1 (.cells #[.slice b 16 c, .int .i64 0, .slice none 0 0, .int .i64 0] 28)
  have kX := heap_last w1 (.cells #[.slice b 16 c, .int .i64 0, .slice none 0 0, .int .i64 0] 28)
  have HP : Hid (MP w w1.heap.size newV b c none 0 (.slice none 0 0) [] (w1.alloc (.cells #[.slice b 16 c, .int .i64 0, .slice none 0 0, .int .i64 0] 28))) := by
    have hz0 := HZ0.out
    have hs1 := g1.size
    have g2 := HG0.out.trans (g1.mono HG0.out.size)
    refine ⟨g2.trans (gX.mono g2.size), (gX.block _ (by omega)).trans ((g1.block _ (by omega)).trans HK0.out), kX, ?_, ?_, TB.nil _ _, by omega⟩
    · exact ((o1.below gX).read).1
    · exact ((o1.below gX).read).2
  clear g1 o1 gX kX HG0 HK0
  go_wp2_with fail
  generalize w1.alloc (.cells #[.slice b 16 c, .int .i64 0, .slice none 0 0, .int .i64 0] 28) = wm at *
  generalize hXX : w1.heap.size = X at *
  clear hXX
  go_loopw [6, 18] (fun dd i wr => ∃ (k : Nat) (aB : Option Addr) (kB : Nat) (aL : Option Addr) (kL : Nat) (dv : Value), k ≤ l.length ∧ i = .int .i64 k ∧ dd = dv ∧ MP w X (runV (l.take k) (newV, [])).1 aB kB aL kL dv (runV (l.take k) (newV, [])).2 wr) (fun _ i _ => l.length - (intOf i).toNat)
  case atStart => exact ⟨0, _, _, _, _, _, Nat.zero_le _, rfl, rfl, HP.out⟩
  case round =>
    clear HP
    obtain ⟨k, aB, kB, aL, kL, dv, hk, rfl, hdv0, hP⟩ := hrel
    obtain rfl := hdv0.symm
    by_cases hlt : k < l.length
    · obtain ⟨b', off, rfl, hb', hc⟩ := HZ.out.cell (by omega)
      obtain ⟨c0, c1, c2, c3, c4⟩ := hc k hlt
      have x0 := (hP.be.cell (p := ⟨b', off + k * 5, none⟩) hb').trans c0
      have x1 := (hP.be.cell (p := ⟨b', off + k * 5 + 1, none⟩) hb').trans c1
      have x2 := (hP.be.cell (p := ⟨b', off + k * 5 + 2, none⟩) hb').trans c2
      have x3 := (hP.be.cell (p := ⟨b', off + k * 5 + 3, none⟩) hb').trans c3
      have x4 := (hP.be.cell (p := ⟨b', off + k * 5 + 4, none⟩) hb').trans c4
      have HSN : Hid (runV (l.take (k + 1)) (newV, []) = (nextV (runV (l.take k) (newV, [])).1 l[k], (runV (l.take k) (newV, [])).2 ++ [didV (runV (l.take k) (newV, [])).1 l[k]])) := by
        show _ = _
        rw [List.take_succ_eq_append_getElem hlt, runV_snoc]
      have HDL : Hid ((runV (l.take k) (newV, [])).2.length + 1 ≤ 10000) := by show _ ≤ _; rw [runV_len, List.length_take]; simp; omega
      have HGD := hid (runV_good (l.take k) (newV, []) GoodVol.new)
      clear hc c0 c1 c2 c3 c4
      generalize (runV (l.take k) (newV, [])).1 = v at *
      generalize (runV (l.take k) (newV, [])).2 = d at *
      generalize hop : l[k] = o at *
      obtain ⟨o0, o1, o2, o3, o4⟩ := o
      simp only at x0 x1 x2 x3 x4
      have h16 := goodBs_len HGD.out.bs
      have h40 := HGD.out.len
      have gO := boxB wr (.cells #[.int .i64 o0, .int .i64 o1, .int .i64 o2, .string o3, .int .i64 o4] 35)
      have kO := heap_last wr (.cells #[.int .i64 o0, .int .i64 o1, .int .i64 o2, .string o3, .int .i64 o4] 35)
      generalize hWO : wr.alloc (.cells #[.int .i64 o0, .int .i64 o1, .int .i64 o2, .string o3, .int .i64 o4] 35) = wo at *
      have hPo := hP.on gO
      have HPo := hid hPo
      have hOl := kboxV kO
      have HOW : Hid (∀ v', BW wo v' → Calls Try.prog 32 #[.agg #[.slice aB v.1.length kB, .int .i64 v.2.1, .slice aL v.2.2.1.length kL, .int .i64 v.2.2.2]] v' fun e w' => CpOut v.1 v.2.1 v.2.2.1 v.2.2.2 v' e w') := fun v' g => l6Own_any aB aL kB kL v.1 v.2.1 v.2.2.1 v.2.2.2 v' (by omega) (by omega) ((hPo.ss.below g).mono (Below.size g)) ((hPo.rs.below g).mono (Below.size g))
      have HDO : Hid (∀ v' (lo mid : Nat) (a1 : Option Addr) (c1 : Nat) (a2 : Option Addr) (c2 : Nat), OV lo mid a1 c1 v.1 a2 c2 v.2.2.1 v' → Calls Try.prog 31 #[.agg #[.slice a1 v.1.length c1, .int .i64 v.2.1, .slice a2 v.2.2.1.length c2, .int .i64 v.2.2.2], .agg #[.int .i64 o0, .int .i64 o1, .int .i64 o2, .string o3, .int .i64 o4]] v' fun e w' => ∃ b1 m1 j1 f b2 m2 j2 s9, e = .returned (.tuple #[.agg #[.slice b1 m1 j1, .int .i64 f, .slice b2 m2 j2, .int .i64 s9], .bool (didV v ⟨o0, o1, o2, o3, o4⟩)]) ∧ Kp (volP a1 c1 v.1.length a2 c2 v.2.2.1.length) v' w' ∧ (∀ u : Vol, doV v.1 v.2.1 v.2.2.1 v.2.2.2 ⟨o0, o1, o2, o3, o4⟩ = some u → m1 = u.1.length ∧ f = u.2.1 ∧ m2 = u.2.2.1.length ∧ s9 = u.2.2.2 ∧ Ss w'.heap.size b1 u.1 w' ∧ Rs w'.heap.size b2 u.2.2.1 w')) := fun v' lo mid a1 c1 a2 c2 h => (l6Do_any lo mid a1 a2 c1 c2 v.1 v.2.1 v.2.2.1 v.2.2.2 o0 o1 o2 o4 o3 v' h HGD.out).mono fun e w' h => h.uni
      have HS : Hid (∀ v', BW wo v' → (v'.cell? ⟨X, 0, none⟩ = some (.slice aB v.1.length kB) ∧ v'.cell? ⟨X, 1, none⟩ = some (.int .i64 v.2.1) ∧ v'.cell? ⟨X, 2, none⟩ = some (.slice aL v.2.2.1.length kL) ∧ v'.cell? ⟨X, 3, none⟩ = some (.int .i64 v.2.2.2)) ∧ v'.cell? ⟨wr.heap.size, 0, none⟩ = some (.int .i64 o0) ∧ v'.cell? ⟨wr.heap.size, 1, none⟩ = some (.int .i64 o1) ∧ v'.cell? ⟨wr.heap.size, 2, none⟩ = some (.int .i64 o2) ∧ v'.cell? ⟨wr.heap.size, 3, none⟩ = some (.string o3) ∧ v'.cell? ⟨wr.heap.size, 4, none⟩ = some (.int .i64 o4)) := fun v' g0 => by
        have g : Below wo.heap.size wo v' := g0
        have e1 := (g.block _ (kboxV hPo.bv)).trans hPo.bv
        have e2 := (g.block _ hOl).trans kO
        exact ⟨⟨box_cell e1 0, box_cell e1 1, box_cell e1 2, box_cell e1 3⟩, box_cell e2 0, box_cell e2 1, box_cell e2 2, box_cell e2 3, box_cell e2 4⟩
      generalize hgo : (⟨o0, o1, o2, o3, o4⟩ : Op) = oo at *
      have HGO := hid hgo
      obtain ⟨dd, hdd⟩ : ∃ dd, didV v oo = dd := ⟨_, rfl⟩
      rw [hdd] at HDO HSN
      have HDD := hid hdd
      clear hdd
      clear hP hPo gO kO hop hgo h16 h40
      go_upto_region 8 with fail
      go_cut [9, 10] (fun s9' s10 wc => ∃ (Q : Nat) (b1 : Option Addr) (m1 j1 : Nat) (f : Int) (b2 : Option Addr) (m2 j2 : Nat) (s9 : Int), s9' = .pointer (some ⟨Q, 0, none⟩) ∧ s10 = .bool dd ∧ wc.heap[Q]? = some (.cells #[.slice b1 m1 j1, .int .i64 f, .slice b2 m2 j2, .int .i64 s9] 28) ∧ BW wo wc ∧ (∀ u : Vol, doV v.1 v.2.1 v.2.2.1 v.2.2.2 oo = some u → m1 = u.1.length ∧ f = u.2.1 ∧ m2 = u.2.2.1.length ∧ s9 = u.2.2.2 ∧ Ss wc.heap.size b1 u.1 wc ∧ Rs wc.heap.size b2 u.2.2.1 wc))
      case first =>
        as_aux_lemma =>
          have A0 : BW wo wo.drew := (Below.refl _ _).drew
          have A0a : BW wo (wo.alloc (.cells #[.slice none 0 0, .int .i64 0, .slice none 0 0, .int .i64 0] 28)).drew := (boxB wo _).drew
          have hz1 : (wo.alloc (.cells #[.slice none 0 0, .int .i64 0, .slice none 0 0, .int .i64 0] 28)).drew.heap.size = wo.heap.size + 1 := heap_size wo _
          obtain ⟨⟨y0, y1, y2, y3⟩, p0, p1, p2, p3, p4⟩ := HS.out _ A0
          obtain ⟨⟨ya0, ya1, ya2, ya3⟩, pa0, pa1, pa2, pa3, pa4⟩ := HS.out _ A0a
          go_region_held (fun v' => (v'.cell? ⟨X, 0, none⟩ = some (.slice aB v.1.length kB) ∧ v'.cell? ⟨X, 1, none⟩ = some (.int .i64 v.2.1) ∧ v'.cell? ⟨X, 2, none⟩ = some (.slice aL v.2.2.1.length kL) ∧ v'.cell? ⟨X, 3, none⟩ = some (.int .i64 v.2.2.2)) ∧ v'.cell? ⟨wr.heap.size, 0, none⟩ = some (.int .i64 o0) ∧ v'.cell? ⟨wr.heap.size, 1, none⟩ = some (.int .i64 o1) ∧ v'.cell? ⟨wr.heap.size, 2, none⟩ = some (.int .i64 o2) ∧ v'.cell? ⟨wr.heap.size, 3, none⟩ = some (.string o3) ∧ v'.cell? ⟨wr.heap.size, 4, none⟩ = some (.int .i64 o4)) (first | exact HS.out _ (by with_reducible assumption)) (first | (go_at_call 32; refine (HOW.out _ (by first | with_reducible exact A0 | with_reducible exact A0a)).mono ?_; rintro e w3 ⟨mid, a1, c1, a2, c2, rfl, hov, b3⟩; have hs3 := b3.size; have hvp := hov.volP; have hlv : ∀ q, volP a1 c1 v.1.length a2 c2 v.2.2.1.length q → wo.heap.size ≤ q := fun q hq => Nat.le_trans (by first | with_reducible exact A0.size | with_reducible exact A0a.size) (hvp q hq).1; have A3 : BW wo w3 := (by first | with_reducible exact A0.on b3 | with_reducible exact A0a.on b3); (try (have q3 : w3.heap[wo.heap.size]? = some (.cells #[.slice none 0 0, .int .i64 0, .slice none 0 0, .int .i64 0] 28) := (b3.block _ (show wo.heap.size < (wo.alloc (.cells #[.slice none 0 0, .int .i64 0, .slice none 0 0, .int .i64 0] 28)).heap.size by simp)).trans (heap_last wo _))); have A3a : BW wo (w3.alloc (.cells #[.slice none 0 0, .int .i64 0, .slice none 0 0, .int .i64 0] 28)) := A3.on (boxB w3 _)) | (go_at_call 31; refine (HDO.out _ _ _ _ _ _ _ (by first | with_reducible exact hov | with_reducible exact hov.below (boxB _ _))).mono ?_; rintro e w4 ⟨b1, m1, j1, f, b2, m2, j2, s9, rfl, k4, hu4⟩; have hs4 := k4.size; have A4 : BW wo w4 := (by first | with_reducible exact A3.kp k4 hlv | with_reducible exact A3a.kp k4 hlv); have A4a : BW wo (w4.alloc (.cells #[.slice none 0 0, .int .i64 0, .slice none 0 0, .int .i64 0] 28)) := A4.on (boxB w4 _); have A4b : BW wo (w4.alloc (.cells #[.slice b1 m1 j1, .int .i64 f, .slice b2 m2 j2, .int .i64 s9] 28)) := A4.on (boxB w4 _); have A4c : BW wo ((((w4.setCell ⟨wo.heap.size, 0, none⟩ (.slice b1 m1 j1)).setCell ⟨wo.heap.size, 1, none⟩ (.int .i64 f)).setCell ⟨wo.heap.size, 2, none⟩ (.slice b2 m2 j2)).setCell ⟨wo.heap.size, 3, none⟩ (.int .i64 s9)) := setB (setB (setB (setB A4 wo.heap.size 0 (Nat.le_refl _) (.slice b1 m1 j1)) wo.heap.size 1 (Nat.le_refl _) (.int .i64 f)) wo.heap.size 2 (Nat.le_refl _) (.slice b2 m2 j2)) wo.heap.size 3 (Nat.le_refl _) (.int .i64 s9); have A4d : BW wo ((((w4.setCell ⟨w3.heap.size, 0, none⟩ (.slice b1 m1 j1)).setCell ⟨w3.heap.size, 1, none⟩ (.int .i64 f)).setCell ⟨w3.heap.size, 2, none⟩ (.slice b2 m2 j2)).setCell ⟨w3.heap.size, 3, none⟩ (.int .i64 s9)) := setB (setB (setB (setB A4 w3.heap.size 0 A3.size (.slice b1 m1 j1)) w3.heap.size 1 A3.size (.int .i64 f)) w3.heap.size 2 A3.size (.slice b2 m2 j2)) w3.heap.size 3 A3.size (.int .i64 s9); (try (have q4 : w4.heap[w3.heap.size]? = some (.cells #[.slice none 0 0, .int .i64 0, .slice none 0 0, .int .i64 0] 28) := (k4.block _ (by simp) (fun g => by have := (hvp _ g).2; omega)).trans (heap_last w3 _); obtain ⟨⟨r0, r1, r2, r3⟩, g0, g1, g2, g3⟩ := box4 q4)); (try (have q5 : w4.heap[wo.heap.size]? = some (.cells #[.slice none 0 0, .int .i64 0, .slice none 0 0, .int .i64 0] 28) := (k4.block _ (by omega) (fun g => by have h1 := (hvp _ g).1; omega)).trans q3; obtain ⟨⟨t0, t1, t2, t3⟩, u0, u1, u2, u3⟩ := box4 q5))))
          all_goals
            go_wp2_with fail
            go_meet
            case rel =>
              have ga := boxB w4 (.cells #[.slice b1 m1 j1, .int .i64 f, .slice b2 m2 j2, .int .i64 s9] 28)
              have hl4 := heap_last w4 (.cells #[.slice b1 m1 j1, .int .i64 f, .slice b2 m2 j2, .int .i64 s9] 28)
              have n1 := fun q => fill4 (w := w4) (Q := w3.heap.size) (t := 28) (a0 := .slice none 0 0) (a1 := .int .i64 0) (a2 := .slice none 0 0) (a3 := .int .i64 0) q (.slice b1 m1 j1) (.int .i64 f) (.slice b2 m2 j2) (.int .i64 s9)
              have n2 := fun q => fill4 (w := w4) (Q := wo.heap.size) (t := 28) (a0 := .slice none 0 0) (a1 := .int .i64 0) (a2 := .slice none 0 0) (a3 := .int .i64 0) q (.slice b1 m1 j1) (.int .i64 f) (.slice b2 m2 j2) (.int .i64 s9)
              refine ⟨_, b1, m1, j1, f, b2, m2, j2, s9, rfl, rfl, ?_, ?_, ?_⟩
              · first | with_reducible exact hl4 | with_reducible exact n1 q4 | with_reducible exact n2 q5
              · first | with_reducible exact A4b | with_reducible exact A4d | with_reducible exact A4c
              · intro u hu
                obtain ⟨e1, e2, e3, e4, hS4, hR4⟩ := hu4 u hu
                refine ⟨e1, e2, e3, e4, ?_, ?_⟩
                · first | with_reducible exact (hS4.below ga).mono ga.size | with_reducible exact ss_fill (Q := w3.heap.size) hS4 q4 (.slice b1 m1 j1) (.int .i64 f) (.slice b2 m2 j2) (.int .i64 s9) | with_reducible exact ss_fill (Q := wo.heap.size) hS4 q5 (.slice b1 m1 j1) (.int .i64 f) (.slice b2 m2 j2) (.int .i64 s9)
                · first | with_reducible exact (hR4.below ga).mono ga.size | with_reducible exact rs_fill (Q := w3.heap.size) hR4 q4 (.slice b1 m1 j1) (.int .i64 f) (.slice b2 m2 j2) (.int .i64 s9) | with_reducible exact rs_fill (Q := wo.heap.size) hR4 q5 (.slice b1 m1 j1) (.int .i64 f) (.slice b2 m2 j2) (.int .i64 s9)
      case rest =>
        as_aux_lemma =>
          obtain ⟨Q, b1, m1, j1, f, b2, m2, j2, s9, rfl, rfl, hQ, hB, hU⟩ := hcut
          have hM := HPo.out.on (show Below wo.heap.size wo wc from hB)
          cases hdv : doV v.1 v.2.1 v.2.2.1 v.2.2.2 oo with
          | none =>
            have hdd : dd = false := by rw [← HDD.out]; unfold didV; rw [hdv]; rfl
            subst hdd
            have HE : Hid (runV (l.take (k + 1)) (newV, []) = (v, d ++ [false])) := by
              show _ = _
              rw [HSN.out]
              unfold nextV
              rw [hdv]
              rfl
            obtain ⟨v', w', r1, hM'⟩ := hM.push false HDL.out
            have HM' := hid hM'
            clear hM hM' hU hdv HSN HDD HDO HOW HS hQ hB HPo
            go_wp2_with (at_builtin; refine wpList_append_run rfl (.tmp 31) (.tmp 33) 29 rfl _ _ rfl rfl _ _ r1 ?_)
            go_roundw
            case rel => exact ⟨k + 1, aB, kB, aL, kL, _, by omega, by go_num, rfl, by rw [HE.out]; exact HM'.out⟩
            case measure => simp [intOf]; omega
          | some u =>
            have hdd : dd = true := by rw [← HDD.out]; unfold didV; rw [hdv]; rfl
            subst hdd
            have HE : Hid (runV (l.take (k + 1)) (newV, []) = (u, d ++ [true])) := by
              show _ = _
              rw [HSN.out]
              unfold nextV
              rw [hdv]
              rfl
            obtain ⟨rfl, rfl, rfl, rfl, hS, hR⟩ := hU u hdv
            have hM2 := hM.put u b1 j1 b2 j2 hS hR
            obtain ⟨v', w', r1, hM'⟩ := hM2.push true HDL.out
            have hzf : ((((wc.setCell ⟨X, 0, none⟩ (.slice b1 u.1.length j1)).setCell ⟨X, 1, none⟩ (.int .i64 u.2.1)).setCell ⟨X, 2, none⟩ (.slice b2 u.2.2.1.length j2)).setCell ⟨X, 3, none⟩ (.int .i64 u.2.2.2)).heap.size = wc.heap.size := by simp [World.setCell]
            rw [hzf] at r1
            have HM' := hid hM'
            obtain ⟨⟨q0, q1, q2, q3⟩, -⟩ := box4 hQ
            obtain ⟨⟨e0, e1, e2, e3⟩, f0, f1, f2, f3⟩ := box4 hM.bv
            clear hM hM2 hM' hU hdv HSN HDD HDO HOW HS hQ hB HPo hS hR hzf
            go_wp2_with (at_builtin; refine wpList_append_run rfl (.tmp 31) (.tmp 33) 29 rfl _ _ rfl rfl _ _ r1 ?_)
            go_roundw
            case rel => exact ⟨k + 1, b1, j1, b2, j2, _, by omega, by go_num, rfl, by rw [HE.out]; exact HM'.out⟩
            case measure => simp [intOf]; omega
    · obtain rfl : k = l.length := by omega
      rw [List.take_length] at hP
      have HGD := hid (runV_good l (newV, []) GoodVol.new)
      obtain ⟨v, hv⟩ : ∃ v, (runV l (newV, [])).1 = v := ⟨_, rfl⟩
      obtain ⟨d, hdd⟩ : ∃ d, (runV l (newV, [])).2 = d := ⟨_, rfl⟩
      have HGD : Hid (GoodVol v) := by show GoodVol v; rw [← hv]; exact HGD.out
      rw [hv, hdd] at hP
      have HV := hid hv
      have HDD := hid hdd
      clear hv hdd
      have h16 := goodBs_len HGD.out.bs
      have h40 := HGD.out.len
      have HOW := hid (l6Own_any aB aL kB kL v.1 v.2.1 v.2.2.1 v.2.2.2 wr (by omega) (by omega) hP.ss hP.rs)
      obtain ⟨da, dc, rfl, hdo⟩ := hP.tb.own
      obtain ⟨⟨v0, v1, v2, v3⟩, -⟩ := box4 hP.bv
      have HP := hid hP
      have HDO := hid hdo
      clear hP hdo h16 h40
      go_wp2_with fail
      refine HOW.out.mono ?_
      rintro e w6 ⟨mid, b3, j3, b4, j4, rfl, hov, b6⟩
      have hP6 := HP.out.on b6
      obtain ⟨⟨z0, z1, z2, z3⟩, f0, f1, f2, f3⟩ := box4 hP6.bz
      have hbn := box_set (box_set (box_set (box_set hP6.bz 0 (.slice b3 v.1.length j3)) 1 (.int .i64 v.2.1)) 2 (.slice b4 v.2.2.1.length j4)) 3 (.int .i64 v.2.2.2)
      have e0 := box_cell hbn 0
      have e1 := box_cell hbn 1
      have e2 := box_cell hbn 2
      have e3 := box_cell hbn 3
      simp only [List.setIfInBounds_toArray, List.set_cons_zero, List.set_cons_succ, List.getElem?_toArray, List.getElem?_cons_zero, List.getElem?_cons_succ] at e0 e1 e2 e3
      have HOUT : Hid (POut v d true w (.returned (.tuple #[.agg #[.slice b3 v.1.length j3, .int .i64 v.2.1, .slice b4 v.2.2.1.length j4, .int .i64 v.2.2.2], .slice da d.length dc, .bool true])) ((((w6.setCell ⟨w.heap.size, 0, none⟩ (.slice b3 v.1.length j3)).setCell ⟨w.heap.size, 1, none⟩ (.int .i64 v.2.1)).setCell ⟨w.heap.size, 2, none⟩ (.slice b4 v.2.2.1.length j4)).setCell ⟨w.heap.size, 3, none⟩ (.int .i64 v.2.2.2))) := by
        have hx := HP.out.wx
        have hX := kboxV HP.out.bv
        have hs6 := b6.size
        have hsz : ((((w6.setCell ⟨w.heap.size, 0, none⟩ (.slice b3 v.1.length j3)).setCell ⟨w.heap.size, 1, none⟩ (.int .i64 v.2.1)).setCell ⟨w.heap.size, 2, none⟩ (.slice b4 v.2.2.1.length j4)).setCell ⟨w.heap.size, 3, none⟩ (.int .i64 v.2.2.2)).heap.size = w6.heap.size := by simp [World.setCell]
        have hk : ∀ q, q ≠ w.heap.size → ((((w6.setCell ⟨w.heap.size, 0, none⟩ (.slice b3 v.1.length j3)).setCell ⟨w.heap.size, 1, none⟩ (.int .i64 v.2.1)).setCell ⟨w.heap.size, 2, none⟩ (.slice b4 v.2.2.1.length j4)).setCell ⟨w.heap.size, 3, none⟩ (.int .i64 v.2.2.2)).heap[q]? = w6.heap[q]? := fun q h1 => by
          rw [keepB _ _ _ _ _ h1, keepB _ _ _ _ _ h1, keepB _ _ _ _ _ h1, keepB _ _ _ _ _ h1]
        have hdo : OwnB (X + 1) wr.heap.size da d ((((w6.setCell ⟨w.heap.size, 0, none⟩ (.slice b3 v.1.length j3)).setCell ⟨w.heap.size, 1, none⟩ (.int .i64 v.2.1)).setCell ⟨w.heap.size, 2, none⟩ (.slice b4 v.2.2.1.length j4)).setCell ⟨w.heap.size, 3, none⟩ (.int .i64 v.2.2.2)) := by
          rcases HDO.out with e | ⟨R, r1, r2, e, r⟩
          · exact Or.inl e
          · exact Or.inr ⟨R, r1, r2, e, (r.below b6).same (by omega) (hk R (by omega))⟩
        refine ⟨b3, j3, b4, j4, da, dc, rw_capV hov.log, rfl, wr.heap.size, w6.heap.size, X + 1, wr.heap.size, by omega, by omega, by omega, by omega, by omega, by omega, by omega, hov.own.same (by omega) (fun q h1 h2 => hk q (by omega)), hdo, setB (setB (setB (setB hP6.be _ _ (Nat.le_refl _) _) _ _ (Nat.le_refl _) _) _ _ (Nat.le_refl _) _) _ _ (Nat.le_refl _) _⟩
      clear hbn hP6 hov b6 HOW HP HDO
      go_wp2_with fail
      generalize ((((w6.setCell ⟨w.heap.size, 0, none⟩ (.slice b3 v.1.length j3)).setCell ⟨w.heap.size, 1, none⟩ (.int .i64 v.2.1)).setCell ⟨w.heap.size, 2, none⟩ (.slice b4 v.2.2.1.length j4)).setCell ⟨w.heap.size, 3, none⟩ (.int .i64 v.2.2.2)) = XX at *
      refine bodyPost_ret (v := .tuple #[.agg #[.slice b3 v.1.length j3, .int .i64 v.2.1, .slice b4 v.2.2.1.length j4, .int .i64 v.2.2.2], .slice da d.length dc, .bool true]) (by simp [results, Try.results7, go_sem, e0, e1, e2, e3]) rfl ?_
      rw [HV.out, HDD.out]
      exact HOUT.out
end Go.Proofs.Ytlbhfgcpflhccaa
namespace Go.Proofs.Ytlbhfgcpflhccaa
set_option maxRecDepth 100000
open Go Go.ChangeShapes Go.WideShapes Go.ChangeAt Go.RowKit G00541
theorem box5 {w : World} {Q : Nat} {a0 a1 a2 a3 a4 : Value} {t : TypeId} (h : w.heap[Q]? = some (.cells #[a0, a1, a2, a3, a4] t)) : (w.cell? ⟨Q, 0, none⟩ = some a0 ∧ w.cell? ⟨Q, 1, none⟩ = some a1 ∧ w.cell? ⟨Q, 2, none⟩ = some a2 ∧ w.cell? ⟨Q, 3, none⟩ = some a3 ∧ w.cell? ⟨Q, 4, none⟩ = some a4) ∧ w.frozen? ⟨Q, 0, none⟩ = false ∧ w.frozen? ⟨Q, 1, none⟩ = false ∧ w.frozen? ⟨Q, 2, none⟩ = false ∧ w.frozen? ⟨Q, 3, none⟩ = false ∧ w.frozen? ⟨Q, 4, none⟩ = false :=
  ⟨⟨box_cell h 0, box_cell h 1, box_cell h 2, box_cell h 3, box_cell h 4⟩, box_free h 0, box_free h 1, box_free h 2, box_free h 3, box_free h 4⟩
/-- while an op is drawn: the cursor at B; the answer's place, all zero -/
structure Do5 (w : World) (B N len cap : Nat) (a : Option Addr) (v : World) : Prop where
  cur : Cur B N (.slice a len cap) v
  code : Code B len cap a v
  bx : v.heap[w.heap.size]? = some (.cells #[.int .i64 0, .int .i64 0, .int .i64 0, .string ⟨#[]⟩, .int .i64 0] 35)
  but : But B w v
  bB : B < w.heap.size
theorem Do5.step {w : World} {B N N' len cap : Nat} {a : Option Addr} {v v' : World} (h : Do5 w B N len cap a v) (hC : Cur B N' (.slice a len cap) v') (g : But B v v') : Do5 w B N' len cap a v' :=
  ⟨hC, h.code.but g (Nat.le_refl _) (Nat.le_of_lt h.cur.lt), (g.block _ (kboxV h.bx) (by have := h.bB; omega)).trans h.bx, h.but.trans g, h.bB⟩
theorem Do5.done {w : World} {B N N' len cap : Nat} {a : Option Addr} {v : World} (h : Do5 w B N len cap a v) (hN : N ≤ N') (c0 c1 c2 c3 c4 : Value) : Cur B N' (.slice a len cap) (((((v.setCell ⟨w.heap.size, 0, none⟩ (c0)).setCell ⟨w.heap.size, 1, none⟩ (c1)).setCell ⟨w.heap.size, 2, none⟩ (c2)).setCell ⟨w.heap.size, 3, none⟩ (c3)).setCell ⟨w.heap.size, 4, none⟩ (c4)) ∧ But B w (((((v.setCell ⟨w.heap.size, 0, none⟩ (c0)).setCell ⟨w.heap.size, 1, none⟩ (c1)).setCell ⟨w.heap.size, 2, none⟩ (c2)).setCell ⟨w.heap.size, 3, none⟩ (c3)).setCell ⟨w.heap.size, 4, none⟩ (c4)) := by
  have hb := h.bB
  exact ⟨(((((h.cur.setOther (by omega) 0 c0).setOther (by omega) 1 c1).setOther (by omega) 2 c2).setOther (by omega) 3 c3).setOther (by omega) 4 c4).mono hN, ((((h.but.setNew (Nat.le_refl _) 0 c0).setNew (Nat.le_refl _) 1 c1).setNew (Nat.le_refl _) 2 c2).setNew (Nat.le_refl _) 3 c3).setNew (Nat.le_refl _) 4 c4⟩
set_option maxHeartbeats 4000000 in
theorem volOp_any (B N len cap : Nat) (a : Option Addr) (w : World) (hN : N ≤ 890000) (hC : Cur B N (.slice a len cap) w) (hK : Code B len cap a w) :
    Calls Try.prog 48 #[.pointer (some ⟨B, 0, none⟩)] w fun e w' => ∃ o : Op, e = .returned (oval o) ∧ o.data.size ≤ 9 ∧ Cur B (N + 60) (.slice a len cap) w' ∧ But B w w' := by
  have hlt := hC.lt
  have h0 : Do5 w B N len cap a (w.alloc (.cells #[.int .i64 0, .int .i64 0, .int .i64 0, .string ⟨#[]⟩, .int .i64 0] 35)) := ⟨hC.alloc _, hK.but ((But.refl B w).alloc _) (Nat.le_refl _) (Nat.le_of_lt hlt), heap_last _ _, (But.refl B w).alloc _, hlt⟩
  generalize hW0 : w.alloc (.cells #[.int .i64 0, .int .i64 0, .int .i64 0, .string ⟨#[]⟩, .int .i64 0] 35) = w0 at *
  have HD := hid h0
  clear hC hK h0
  go_enter Try.func48, Try.ntmps48
  go_wp2_with fail
  clear hW0
  refine (record_any B N len cap a _ (by omega) HD.out.cur HD.out.code).mono ?_
  rintro e w1 ⟨r, rfl, hr9, hC1, hB1⟩
  have h1 : Do5 w B (N + 40) len cap a w1 := HD.out.step hC1 hB1
  unfold rval
  have hz : (str r.data).size ≤ 9 := by rw [str_size]; exact hr9
  generalize r.kind = r0 at *
  generalize r.place = r1 at *
  generalize r.long = r2 at *
  generalize str r.data = r3 at *
  have kR := heap_last w1 (.cells #[.int .i64 r0, .int .i64 r1, .int .i64 r2, .string r3] 37)
  have h2 : Do5 w B (N + 40) len cap a (w1.alloc (.cells #[.int .i64 r0, .int .i64 r1, .int .i64 r2, .string r3] 37)) := h1.step (h1.cur.alloc _) ((But.refl B w1).alloc _)
  have hR1 : w1.heap.size ≠ B := by have := h1.cur.lt; omega
  have HD := hid h2
  have HKR := hid kR
  clear hC1 hB1 h1 h2 kR hr9
  go_wp2_with fail
  generalize w1.alloc (.cells #[.int .i64 r0, .int .i64 r1, .int .i64 r2, .string r3] 37) = w2 at *
  refine (pick_any 12 B _ len cap a _ (by omega) (by omega) (by omega) HD.out.cur HD.out.code).mono ?_
  rintro e w3 ⟨x, rfl, x0, x1, hC3, hB3⟩
  have hR3 : w3.heap[w1.heap.size]? = some (.cells #[.int .i64 r0, .int .i64 r1, .int .i64 r2, .string r3] 37) := (hB3.block _ (kboxV HKR.out) hR1).trans HKR.out
  have HD : Hid (Do5 w B (N + 42) len cap a w3) := HD.out.step hC3 hB3
  obtain ⟨⟨y0, y1, y2, y3⟩, -⟩ := box4 hR3
  clear hC3 hB3 HKR hR3
  rcases (show x = 0 ∨ x = 1 ∨ x = 2 ∨ x = 3 ∨ x = 4 ∨ x = 5 ∨ 6 ≤ x by omega) with rfl | rfl | rfl | rfl | rfl | rfl | h6
  · clear y0 y1 y2 y3
    obtain ⟨⟨z0, z1, z2, z3, z4⟩, f0, f1, f2, f3, f4⟩ := box5 HD.out.bx
    have hbn := box_set (box_set (box_set (box_set (box_set HD.out.bx 0 (.int .i64 4)) 1 (.int .i64 0)) 2 (.int .i64 0)) 3 (.string ⟨#[]⟩)) 4 (.int .i64 0)
    have e0 := box_cell hbn 0
    have e1 := box_cell hbn 1
    have e2 := box_cell hbn 2
    have e3 := box_cell hbn 3
    have e4 := box_cell hbn 4
    simp only [List.setIfInBounds_toArray, List.set_cons_zero, List.set_cons_succ, List.getElem?_toArray, List.getElem?_cons_zero, List.getElem?_cons_succ] at e0 e1 e2 e3 e4
    have HF : Hid (Cur B (N + 60) (.slice a len cap) (((((w3.setCell ⟨w.heap.size, 0, none⟩ (.int .i64 4)).setCell ⟨w.heap.size, 1, none⟩ (.int .i64 0)).setCell ⟨w.heap.size, 2, none⟩ (.int .i64 0)).setCell ⟨w.heap.size, 3, none⟩ (.string ⟨#[]⟩)).setCell ⟨w.heap.size, 4, none⟩ (.int .i64 0)) ∧ But B w (((((w3.setCell ⟨w.heap.size, 0, none⟩ (.int .i64 4)).setCell ⟨w.heap.size, 1, none⟩ (.int .i64 0)).setCell ⟨w.heap.size, 2, none⟩ (.int .i64 0)).setCell ⟨w.heap.size, 3, none⟩ (.string ⟨#[]⟩)).setCell ⟨w.heap.size, 4, none⟩ (.int .i64 0))) := HD.out.done (by omega) (.int .i64 4) (.int .i64 0) (.int .i64 0) (.string ⟨#[]⟩) (.int .i64 0)
    clear hbn
    go_wp2_with fail
    generalize (((((w3.setCell ⟨w.heap.size, 0, none⟩ (.int .i64 4)).setCell ⟨w.heap.size, 1, none⟩ (.int .i64 0)).setCell ⟨w.heap.size, 2, none⟩ (.int .i64 0)).setCell ⟨w.heap.size, 3, none⟩ (.string ⟨#[]⟩)).setCell ⟨w.heap.size, 4, none⟩ (.int .i64 0)) = XX at *
    refine bodyPost_ret (v := .agg #[.int .i64 4, .int .i64 0, .int .i64 0, .string ⟨#[]⟩, .int .i64 0]) (by simp [results, Try.results48, go_sem, e0, e1, e2, e3, e4]) rfl ⟨⟨4, 0, 0, ⟨#[]⟩, 0⟩, rfl, (show (0 : Nat) ≤ 9 by decide), HF.out.1, HF.out.2⟩
  · clear y0 y1 y2 y3
    obtain ⟨⟨z0, z1, z2, z3, z4⟩, f0, f1, f2, f3, f4⟩ := box5 HD.out.bx
    have hbn := box_set (box_set (box_set (box_set (box_set HD.out.bx 0 (.int .i64 4)) 1 (.int .i64 0)) 2 (.int .i64 0)) 3 (.string ⟨#[]⟩)) 4 (.int .i64 0)
    have e0 := box_cell hbn 0
    have e1 := box_cell hbn 1
    have e2 := box_cell hbn 2
    have e3 := box_cell hbn 3
    have e4 := box_cell hbn 4
    simp only [List.setIfInBounds_toArray, List.set_cons_zero, List.set_cons_succ, List.getElem?_toArray, List.getElem?_cons_zero, List.getElem?_cons_succ] at e0 e1 e2 e3 e4
    have HF : Hid (Cur B (N + 60) (.slice a len cap) (((((w3.setCell ⟨w.heap.size, 0, none⟩ (.int .i64 4)).setCell ⟨w.heap.size, 1, none⟩ (.int .i64 0)).setCell ⟨w.heap.size, 2, none⟩ (.int .i64 0)).setCell ⟨w.heap.size, 3, none⟩ (.string ⟨#[]⟩)).setCell ⟨w.heap.size, 4, none⟩ (.int .i64 0)) ∧ But B w (((((w3.setCell ⟨w.heap.size, 0, none⟩ (.int .i64 4)).setCell ⟨w.heap.size, 1, none⟩ (.int .i64 0)).setCell ⟨w.heap.size, 2, none⟩ (.int .i64 0)).setCell ⟨w.heap.size, 3, none⟩ (.string ⟨#[]⟩)).setCell ⟨w.heap.size, 4, none⟩ (.int .i64 0))) := HD.out.done (by omega) (.int .i64 4) (.int .i64 0) (.int .i64 0) (.string ⟨#[]⟩) (.int .i64 0)
    clear hbn
    go_wp2_with fail
    generalize (((((w3.setCell ⟨w.heap.size, 0, none⟩ (.int .i64 4)).setCell ⟨w.heap.size, 1, none⟩ (.int .i64 0)).setCell ⟨w.heap.size, 2, none⟩ (.int .i64 0)).setCell ⟨w.heap.size, 3, none⟩ (.string ⟨#[]⟩)).setCell ⟨w.heap.size, 4, none⟩ (.int .i64 0)) = XX at *
    refine bodyPost_ret (v := .agg #[.int .i64 4, .int .i64 0, .int .i64 0, .string ⟨#[]⟩, .int .i64 0]) (by simp [results, Try.results48, go_sem, e0, e1, e2, e3, e4]) rfl ⟨⟨4, 0, 0, ⟨#[]⟩, 0⟩, rfl, (show (0 : Nat) ≤ 9 by decide), HF.out.1, HF.out.2⟩
  · clear y0 y1 y2 y3
    go_wp2_with fail
    refine (pick_any 12 B _ len cap a _ (by omega) (by omega) (by omega) HD.out.cur HD.out.code).mono ?_
    rintro e w4 ⟨p, rfl, p0, p1, hCw4, hBw4⟩
    have HD : Hid (Do5 w B (N + 44) len cap a w4) := HD.out.step hCw4 hBw4
    clear hCw4 hBw4
    obtain ⟨⟨z0, z1, z2, z3, z4⟩, f0, f1, f2, f3, f4⟩ := box5 HD.out.bx
    have hbn := box_set (box_set (box_set (box_set (box_set HD.out.bx 0 (.int .i64 5)) 1 (.int .i64 0)) 2 (.int .i64 0)) 3 (.string ⟨#[]⟩)) 4 (.int .i64 p)
    have e0 := box_cell hbn 0
    have e1 := box_cell hbn 1
    have e2 := box_cell hbn 2
    have e3 := box_cell hbn 3
    have e4 := box_cell hbn 4
    simp only [List.setIfInBounds_toArray, List.set_cons_zero, List.set_cons_succ, List.getElem?_toArray, List.getElem?_cons_zero, List.getElem?_cons_succ] at e0 e1 e2 e3 e4
    have HF : Hid (Cur B (N + 60) (.slice a len cap) (((((w4.setCell ⟨w.heap.size, 0, none⟩ (.int .i64 5)).setCell ⟨w.heap.size, 1, none⟩ (.int .i64 0)).setCell ⟨w.heap.size, 2, none⟩ (.int .i64 0)).setCell ⟨w.heap.size, 3, none⟩ (.string ⟨#[]⟩)).setCell ⟨w.heap.size, 4, none⟩ (.int .i64 p)) ∧ But B w (((((w4.setCell ⟨w.heap.size, 0, none⟩ (.int .i64 5)).setCell ⟨w.heap.size, 1, none⟩ (.int .i64 0)).setCell ⟨w.heap.size, 2, none⟩ (.int .i64 0)).setCell ⟨w.heap.size, 3, none⟩ (.string ⟨#[]⟩)).setCell ⟨w.heap.size, 4, none⟩ (.int .i64 p))) := HD.out.done (by omega) (.int .i64 5) (.int .i64 0) (.int .i64 0) (.string ⟨#[]⟩) (.int .i64 p)
    clear hbn
    go_wp2_with fail
    generalize (((((w4.setCell ⟨w.heap.size, 0, none⟩ (.int .i64 5)).setCell ⟨w.heap.size, 1, none⟩ (.int .i64 0)).setCell ⟨w.heap.size, 2, none⟩ (.int .i64 0)).setCell ⟨w.heap.size, 3, none⟩ (.string ⟨#[]⟩)).setCell ⟨w.heap.size, 4, none⟩ (.int .i64 p)) = XX at *
    refine bodyPost_ret (v := .agg #[.int .i64 5, .int .i64 0, .int .i64 0, .string ⟨#[]⟩, .int .i64 p]) (by simp [results, Try.results48, go_sem, e0, e1, e2, e3, e4]) rfl ⟨⟨5, 0, 0, ⟨#[]⟩, p⟩, rfl, (show (0 : Nat) ≤ 9 by decide), HF.out.1, HF.out.2⟩
  · clear y0 y1 y2 y3
    obtain ⟨⟨z0, z1, z2, z3, z4⟩, f0, f1, f2, f3, f4⟩ := box5 HD.out.bx
    have hbn := box_set (box_set (box_set (box_set (box_set HD.out.bx 0 (.int .i64 6)) 1 (.int .i64 0)) 2 (.int .i64 0)) 3 (.string ⟨#[]⟩)) 4 (.int .i64 0)
    have e0 := box_cell hbn 0
    have e1 := box_cell hbn 1
    have e2 := box_cell hbn 2
    have e3 := box_cell hbn 3
    have e4 := box_cell hbn 4
    simp only [List.setIfInBounds_toArray, List.set_cons_zero, List.set_cons_succ, List.getElem?_toArray, List.getElem?_cons_zero, List.getElem?_cons_succ] at e0 e1 e2 e3 e4
    have HF : Hid (Cur B (N + 60) (.slice a len cap) (((((w3.setCell ⟨w.heap.size, 0, none⟩ (.int .i64 6)).setCell ⟨w.heap.size, 1, none⟩ (.int .i64 0)).setCell ⟨w.heap.size, 2, none⟩ (.int .i64 0)).setCell ⟨w.heap.size, 3, none⟩ (.string ⟨#[]⟩)).setCell ⟨w.heap.size, 4, none⟩ (.int .i64 0)) ∧ But B w (((((w3.setCell ⟨w.heap.size, 0, none⟩ (.int .i64 6)).setCell ⟨w.heap.size, 1, none⟩ (.int .i64 0)).setCell ⟨w.heap.size, 2, none⟩ (.int .i64 0)).setCell ⟨w.heap.size, 3, none⟩ (.string ⟨#[]⟩)).setCell ⟨w.heap.size, 4, none⟩ (.int .i64 0))) := HD.out.done (by omega) (.int .i64 6) (.int .i64 0) (.int .i64 0) (.string ⟨#[]⟩) (.int .i64 0)
    clear hbn
    go_wp2_with fail
    generalize (((((w3.setCell ⟨w.heap.size, 0, none⟩ (.int .i64 6)).setCell ⟨w.heap.size, 1, none⟩ (.int .i64 0)).setCell ⟨w.heap.size, 2, none⟩ (.int .i64 0)).setCell ⟨w.heap.size, 3, none⟩ (.string ⟨#[]⟩)).setCell ⟨w.heap.size, 4, none⟩ (.int .i64 0)) = XX at *
    refine bodyPost_ret (v := .agg #[.int .i64 6, .int .i64 0, .int .i64 0, .string ⟨#[]⟩, .int .i64 0]) (by simp [results, Try.results48, go_sem, e0, e1, e2, e3, e4]) rfl ⟨⟨6, 0, 0, ⟨#[]⟩, 0⟩, rfl, (show (0 : Nat) ≤ 9 by decide), HF.out.1, HF.out.2⟩
  · clear y0 y1 y2 y3
    go_wp2_with fail
    refine (pick_any 3 B _ len cap a _ (by omega) (by omega) (by omega) HD.out.cur HD.out.code).mono ?_
    rintro e w4 ⟨p, rfl, p0, p1, hCw4, hBw4⟩
    have HD : Hid (Do5 w B (N + 44) len cap a w4) := HD.out.step hCw4 hBw4
    clear hCw4 hBw4
    obtain ⟨⟨z0, z1, z2, z3, z4⟩, f0, f1, f2, f3, f4⟩ := box5 HD.out.bx
    have hbn := box_set (box_set (box_set (box_set (box_set HD.out.bx 0 (.int .i64 3)) 1 (.int .i64 (1 + p))) 2 (.int .i64 0)) 3 (.string ⟨#[]⟩)) 4 (.int .i64 0)
    have e0 := box_cell hbn 0
    have e1 := box_cell hbn 1
    have e2 := box_cell hbn 2
    have e3 := box_cell hbn 3
    have e4 := box_cell hbn 4
    simp only [List.setIfInBounds_toArray, List.set_cons_zero, List.set_cons_succ, List.getElem?_toArray, List.getElem?_cons_zero, List.getElem?_cons_succ] at e0 e1 e2 e3 e4
    have HF : Hid (Cur B (N + 60) (.slice a len cap) (((((w4.setCell ⟨w.heap.size, 0, none⟩ (.int .i64 3)).setCell ⟨w.heap.size, 1, none⟩ (.int .i64 (1 + p))).setCell ⟨w.heap.size, 2, none⟩ (.int .i64 0)).setCell ⟨w.heap.size, 3, none⟩ (.string ⟨#[]⟩)).setCell ⟨w.heap.size, 4, none⟩ (.int .i64 0)) ∧ But B w (((((w4.setCell ⟨w.heap.size, 0, none⟩ (.int .i64 3)).setCell ⟨w.heap.size, 1, none⟩ (.int .i64 (1 + p))).setCell ⟨w.heap.size, 2, none⟩ (.int .i64 0)).setCell ⟨w.heap.size, 3, none⟩ (.string ⟨#[]⟩)).setCell ⟨w.heap.size, 4, none⟩ (.int .i64 0))) := HD.out.done (by omega) (.int .i64 3) (.int .i64 (1 + p)) (.int .i64 0) (.string ⟨#[]⟩) (.int .i64 0)
    clear hbn
    go_wp2_with fail
    generalize (((((w4.setCell ⟨w.heap.size, 0, none⟩ (.int .i64 3)).setCell ⟨w.heap.size, 1, none⟩ (.int .i64 (1 + p))).setCell ⟨w.heap.size, 2, none⟩ (.int .i64 0)).setCell ⟨w.heap.size, 3, none⟩ (.string ⟨#[]⟩)).setCell ⟨w.heap.size, 4, none⟩ (.int .i64 0)) = XX at *
    refine bodyPost_ret (v := .agg #[.int .i64 3, .int .i64 (1 + p), .int .i64 0, .string ⟨#[]⟩, .int .i64 0]) (by simp [results, Try.results48, go_sem, e0, e1, e2, e3, e4]) rfl ⟨⟨3, 1 + p, 0, ⟨#[]⟩, 0⟩, rfl, (show (0 : Nat) ≤ 9 by decide), HF.out.1, HF.out.2⟩
  · clear y0 y1 y2 y3
    go_wp2_with fail
    refine (pick_any 8 B _ len cap a _ (by omega) (by omega) (by omega) HD.out.cur HD.out.code).mono ?_
    rintro e w4 ⟨p, rfl, p0, p1, hCw4, hBw4⟩
    have HD : Hid (Do5 w B (N + 44) len cap a w4) := HD.out.step hCw4 hBw4
    clear hCw4 hBw4
    go_wp2_with fail
    refine (pick_any 3 B _ len cap a _ (by omega) (by omega) (by omega) HD.out.cur HD.out.code).mono ?_
    rintro e w5 ⟨q, rfl, q0, q1, hCw5, hBw5⟩
    have HD : Hid (Do5 w B (N + 46) len cap a w5) := HD.out.step hCw5 hBw5
    clear hCw5 hBw5
    go_wp2_with fail
    refine (pick_any 3 B _ len cap a _ (by omega) (by omega) (by omega) HD.out.cur HD.out.code).mono ?_
    rintro e w6 ⟨s, rfl, s0, s1, hCw6, hBw6⟩
    have HD : Hid (Do5 w B (N + 48) len cap a w6) := HD.out.step hCw6 hBw6
    clear hCw6 hBw6
    obtain ⟨⟨z0, z1, z2, z3, z4⟩, f0, f1, f2, f3, f4⟩ := box5 HD.out.bx
    have hbn := box_set (box_set (box_set (box_set (box_set HD.out.bx 0 (.int .i64 p)) 1 (.int .i64 q)) 2 (.int .i64 0)) 3 (.string ⟨#[]⟩)) 4 (.int .i64 s)
    have e0 := box_cell hbn 0
    have e1 := box_cell hbn 1
    have e2 := box_cell hbn 2
    have e3 := box_cell hbn 3
    have e4 := box_cell hbn 4
    simp only [List.setIfInBounds_toArray, List.set_cons_zero, List.set_cons_succ, List.getElem?_toArray, List.getElem?_cons_zero, List.getElem?_cons_succ] at e0 e1 e2 e3 e4
    have HF : Hid (Cur B (N + 60) (.slice a len cap) (((((w6.setCell ⟨w.heap.size, 0, none⟩ (.int .i64 p)).setCell ⟨w.heap.size, 1, none⟩ (.int .i64 q)).setCell ⟨w.heap.size, 2, none⟩ (.int .i64 0)).setCell ⟨w.heap.size, 3, none⟩ (.string ⟨#[]⟩)).setCell ⟨w.heap.size, 4, none⟩ (.int .i64 s)) ∧ But B w (((((w6.setCell ⟨w.heap.size, 0, none⟩ (.int .i64 p)).setCell ⟨w.heap.size, 1, none⟩ (.int .i64 q)).setCell ⟨w.heap.size, 2, none⟩ (.int .i64 0)).setCell ⟨w.heap.size, 3, none⟩ (.string ⟨#[]⟩)).setCell ⟨w.heap.size, 4, none⟩ (.int .i64 s))) := HD.out.done (by omega) (.int .i64 p) (.int .i64 q) (.int .i64 0) (.string ⟨#[]⟩) (.int .i64 s)
    clear hbn
    go_wp2_with fail
    generalize (((((w6.setCell ⟨w.heap.size, 0, none⟩ (.int .i64 p)).setCell ⟨w.heap.size, 1, none⟩ (.int .i64 q)).setCell ⟨w.heap.size, 2, none⟩ (.int .i64 0)).setCell ⟨w.heap.size, 3, none⟩ (.string ⟨#[]⟩)).setCell ⟨w.heap.size, 4, none⟩ (.int .i64 s)) = XX at *
    refine bodyPost_ret (v := .agg #[.int .i64 p, .int .i64 q, .int .i64 0, .string ⟨#[]⟩, .int .i64 s]) (by simp [results, Try.results48, go_sem, e0, e1, e2, e3, e4]) rfl ⟨⟨p, q, 0, ⟨#[]⟩, s⟩, rfl, (show (0 : Nat) ≤ 9 by decide), HF.out.1, HF.out.2⟩
  · have b0 : (x == 0) = false := by simp; omega
    have b1 : (x == 1) = false := by simp; omega
    have b2 : (x == 2) = false := by simp; omega
    have b3 : (x == 3) = false := by simp; omega
    have b4 : (x == 4) = false := by simp; omega
    have b5 : (x == 5) = false := by simp; omega
    obtain ⟨⟨z0, z1, z2, z3, z4⟩, f0, f1, f2, f3, f4⟩ := box5 HD.out.bx
    have hbn := box_set (box_set (box_set (box_set (box_set HD.out.bx 0 (.int .i64 r0)) 1 (.int .i64 r1)) 2 (.int .i64 r2)) 3 (.string r3)) 4 (.int .i64 0)
    have e0 := box_cell hbn 0
    have e1 := box_cell hbn 1
    have e2 := box_cell hbn 2
    have e3 := box_cell hbn 3
    have e4 := box_cell hbn 4
    simp only [List.setIfInBounds_toArray, List.set_cons_zero, List.set_cons_succ, List.getElem?_toArray, List.getElem?_cons_zero, List.getElem?_cons_succ] at e0 e1 e2 e3 e4
    have HF : Hid (Cur B (N + 60) (.slice a len cap) (((((w3.setCell ⟨w.heap.size, 0, none⟩ (.int .i64 r0)).setCell ⟨w.heap.size, 1, none⟩ (.int .i64 r1)).setCell ⟨w.heap.size, 2, none⟩ (.int .i64 r2)).setCell ⟨w.heap.size, 3, none⟩ (.string r3)).setCell ⟨w.heap.size, 4, none⟩ (.int .i64 0)) ∧ But B w (((((w3.setCell ⟨w.heap.size, 0, none⟩ (.int .i64 r0)).setCell ⟨w.heap.size, 1, none⟩ (.int .i64 r1)).setCell ⟨w.heap.size, 2, none⟩ (.int .i64 r2)).setCell ⟨w.heap.size, 3, none⟩ (.string r3)).setCell ⟨w.heap.size, 4, none⟩ (.int .i64 0))) := HD.out.done (by omega) (.int .i64 r0) (.int .i64 r1) (.int .i64 r2) (.string r3) (.int .i64 0)
    clear hbn
    go_wp2_with fail
    generalize (((((w3.setCell ⟨w.heap.size, 0, none⟩ (.int .i64 r0)).setCell ⟨w.heap.size, 1, none⟩ (.int .i64 r1)).setCell ⟨w.heap.size, 2, none⟩ (.int .i64 r2)).setCell ⟨w.heap.size, 3, none⟩ (.string r3)).setCell ⟨w.heap.size, 4, none⟩ (.int .i64 0)) = XX at *
    refine bodyPost_ret (v := .agg #[.int .i64 r0, .int .i64 r1, .int .i64 r2, .string r3, .int .i64 0]) (by simp [results, Try.results48, go_sem, e0, e1, e2, e3, e4]) rfl ⟨⟨r0, r1, r2, r3, 0⟩, rfl, hz, HF.out.1, HF.out.2⟩
end Go.Proofs.Ytlbhfgcpflhccaa
namespace Go.Proofs.Ytlbhfgcpflhccaa
set_option maxRecDepth 100000
open Go Go.ChangeShapes Go.WideShapes Go.ChangeAt Go.RowKit G00541
def ovals (l : List Op) : List Value := (l.map ocells).flatten
theorem ovals_snoc (l : List Op) (o : Op) : ovals (l ++ [o]) = ovals l ++ ocells o := by simp [ovals]
/-- ops of one's own -/
def OG (lo : Nat) (v : Value) (l : List Op) (w : World) : Prop := w.ownsRow lo 35 5 v l.length (ovals l)
theorem OG.nil (lo : Nat) (w : World) : OG lo (.slice none 0 0) [] w := World.ownsRow_nil _ _ _ _
theorem OG.but {B lo : Nat} {w w' : World} {v : Value} {l : List Op} (h : OG lo v l w) (g : But B w w') (hB : B < lo) : OG lo v l w' :=
  rw_keep h (fun k hk => g.block k (World.ownsRow.lt h k hk).2 (fun e => by have := (World.ownsRow.lt h k hk).1; omega))
theorem OG.below {lo : Nat} {w w' : World} {v : Value} {l : List Op} (h : OG lo v l w) (g : Below w.heap.size w w') : OG lo v l w' := rw_below h g
theorem OG.push {lo : Nat} {v : Value} {l : List Op} {w : World} (h : OG lo v l w) (hlo : lo ≤ w.heap.size) (o : Op) (hm : l.length + 1 ≤ 10000) :
    ∃ v' w', (∀ ty, (Builtin.append_ #[23, 23] ty #[v, .slice (some ⟨w.heap.size, 0, none⟩) 1 1]).run Try.prog (w.alloc (.cells #[.int .i64 o.kind, .int .i64 o.place, .int .i64 o.long, .string o.data, .int .i64 o.keep] 35)) = .ok v' w') ∧ OG lo v' (l ++ [o]) w' ∧ Below lo w w' := by
  have gb := boxB w (.cells #[.int .i64 o.kind, .int .i64 o.place, .int .i64 o.long, .string o.data, .int .i64 o.keep] 35)
  have hbx := heap_last w (.cells #[.int .i64 o.kind, .int .i64 o.place, .int .i64 o.long, .string o.data, .int .i64 o.keep] 35)
  have ha := h.below gb
  generalize w.alloc (.cells #[.int .i64 o.kind, .int .i64 o.place, .int .i64 o.long, .string o.data, .int .i64 o.keep] 35) = wa at *
  obtain ⟨i, hi, hz0, hz1, hz2⟩ := info_parts infoOp
  have hnews : ∀ j u, (ocells o)[j]? = some u → wa.cell? ((⟨w.heap.size, 0, none⟩ : Addr).add j) = some u := fun j u hu => by
    have e : (⟨w.heap.size, 0, none⟩ : Addr).add j = ⟨w.heap.size, j, none⟩ := by unfold Addr.add; split <;> simp_all
    rw [e, box_cell hbx]
    show (ocells o).toArray[j]? = some u
    rw [List.getElem?_toArray]
    exact hu
  have one1 : ∀ u ∈ ocells o, u.oneCell' = true := fun u hu => by
    unfold ocells at hu
    simp only [List.mem_cons, List.not_mem_nil, or_false] at hu
    rcases hu with rfl | rfl | rfl | rfl | rfl <;> rfl
  have ha9 : wa.ownsRow lo 35 5 v l.length (ovals l) := ha
  obtain ⟨v', w', hr, h2, h3, _, h5⟩ := run_append_own_at wa lo 23 23 35 i _ 5 48 Try.underlying23 hi hz0 hz1 hz2 rfl (by decide) v l.length (ovals l) ha9 ⟨w.heap.size, 0, none⟩ 1 1 (ocells o) rfl hnews one1 (by unfold maxLen; omega) (by omega) (Nat.le_trans hlo gb.size)
  refine ⟨v', w', fun ty => hr, ?_, (gb.mono hlo).trans (below_of_grown h3 (Nat.le_trans hlo gb.size) (fun k hk => (World.ownsRow.lt ha9 k hk).1))⟩
  unfold OG
  rw [List.length_append, ovals_snoc]
  exact h2
theorem OG.own {lo : Nat} {v : Value} {l : List Op} {w : World} (h : OG lo v l w) : ∃ b c, v = .slice b l.length c ∧ OwnO lo w.heap.size b l w := by
  have h9 : w.ownsRow lo 35 5 v l.length (ovals l) := h
  by_cases h0 : 0 < l.length
  · have hv : v ≠ .slice none 0 0 := by
      intro e
      rcases h9.2 with ⟨_, h1⟩ | ⟨g, cap, cur, e2, _⟩
      · omega
      · rw [e] at e2; cases e2
    obtain ⟨R, cap, e, hR, hrow⟩ := GRow.ofOwns (rows := l.map ocells) (fun i hi => by rw [List.getElem_map]; rfl) h9 (by simp) hv
    exact ⟨_, cap, e, Or.inr ⟨R, hR, hrow.lt, rfl, hrow⟩⟩
  · obtain rfl : l = [] := List.eq_nil_of_length_eq_zero (by omega)
    rcases h9.2 with ⟨e, _⟩ | ⟨g, cap, cur, e, _⟩
    · exact ⟨none, 0, e, Or.inl rfl⟩
    · exact ⟨_, cap, e, Or.inl rfl⟩
theorem But.on {B B0 : Nat} {w w2 w9 : World} (h : But B w w2) (g : Below B0 w2 w9) (h0 : w.heap.size ≤ B0) : But B w w9 :=
  ⟨g.os.trans h.os, g.tape.trans h.tape, g.output.trans h.output, Nat.le_trans h.size g.size, fun k hk hB => (g.block k (by omega)).trans (h.block k hk hB)⟩
theorem Cur.on {B B0 N : Nat} {sv : Value} {w2 w9 : World} (h : Cur B N sv w2) (g : Below B0 w2 w9) (h0 : B < B0) : Cur B N sv w9 := by
  have hc : ∀ i, w9.cell? ⟨B, i, none⟩ = w2.cell? ⟨B, i, none⟩ := fun i => g.cell (p := ⟨B, i, none⟩) h0
  have hf : ∀ i, w9.frozen? ⟨B, i, none⟩ = w2.frozen? ⟨B, i, none⟩ := fun i => g.frozen (p := ⟨B, i, none⟩) h0
  obtain ⟨p, p0, p1, hp⟩ := h.place
  obtain ⟨s, s0, s1, hs⟩ := h.seed
  exact ⟨Nat.lt_of_lt_of_le h.lt g.size, (hc 0).trans h.code, ⟨p, p0, p1, (hc 1).trans hp⟩, ⟨s, s0, s1, (hc 2).trans hs⟩, (hf 1).trans h.free1, (hf 2).trans h.free2⟩
set_option maxHeartbeats 2000000 in
theorem volOps_any (B N len cap : Nat) (a : Option Addr) (w : World) (hN : N ≤ 880000) (hC : Cur B N (.slice a len cap) w) (hK : Code B len cap a w) :
    Calls Try.prog 30 #[.pointer (some ⟨B, 0, none⟩)] w fun e w' => ∃ (v : Value) (l : List Op), e = .returned v ∧ l.length ≤ 61 ∧ (∀ o ∈ l, o.data.size ≤ 9) ∧ OG w.heap.size v l w' ∧ Cur B (N + 4000) (.slice a len cap) w' ∧ But B w w' := by
  have hlt := hC.lt
  have HC := hid hC
  have HK := hid hK
  clear hC hK
  go_enter Try.func30, Try.ntmps30
  go_wp2_with fail
  refine (pick_any _ B N len cap a _ (by omega) (by omega) (by omega) HC.out HK.out).mono ?_
  rintro e w1 ⟨n, rfl, n0, n1, hC1, hB1⟩
  have HC1 := hid hC1
  have HB1 := hid hB1
  have HK1 : Hid (Code B len cap a w1) := HK.out.but hB1 (Nat.le_refl _) (by omega)
  have hs1 := hB1.size
  clear hC1 hB1 HC
  go_wp2_with fail
  refine (one_any _ B (N + 2) len cap a _ (by omega) (by omega) (by omega) HC1.out HK1.out).mono ?_
  rintro e w2 ⟨v2, rfl, hC2, hB2⟩
  have HC2 := hid hC2
  have HB2 : Hid (But B w w2) := HB1.out.trans hB2
  have HK2 : Hid (Code B len cap a w2) := HK1.out.but hB2 (Nat.le_refl _) (by omega)
  have hs2 := hB2.size
  clear hC2 hB2 HC1 HB1 HK1
  cases v2
  · obtain ⟨J0, hJ0⟩ : ∃ J0 : Nat, n = (J0 : Int) := ⟨n.toNat, by omega⟩
    have hj0 : J0 ≤ 61 := by omega
    have HJ := hid hJ0
    subst hJ0
    go_wp2_with fail
    go_loopw [3, 4] (fun o n wr => ∃ (j : Nat) (l : List Op) (o1 : Value), o = o1 ∧ n = .int .i64 (j : Int) ∧ l.length + j ≤ 61 ∧ (∀ x ∈ l, x.data.size ≤ 9) ∧ OG w.heap.size o1 l wr ∧ Cur B (N + 6 + 60 * l.length) (.slice a len cap) wr ∧ But B w wr) (fun _ n _ => (intOf n).toNat)
    case atStart => exact ⟨J0, [], _, rfl, by first | rfl | (rw [HJ.out]), by simpa using hj0, (fun _ h => by cases h), OG.nil _ _, HC2.out.mono (by omega), HB2.out⟩
    case round =>
      clear HC2 HB2 HK2
      obtain ⟨j, l, _, rfl, rfl, hj, hz, hown, hcur, hbut⟩ := hrel
      have HOWN := hid hown
      have HCUR := hid hcur
      have HBUT := hid hbut
      have HZZ := hid hz
      have HCODE : Hid (Code B len cap a wr) := HK.out.but hbut (Nat.le_refl _) (by omega)
      have hszr := hbut.size
      clear hown hcur hbut hz
      by_cases hj1 : 0 < j
      · have hd : decide ((0 : Int) < (j : Int)) = true := decide_eq_true (by omega)
        go_wp2_with fail
        refine (volOp_any B _ len cap a _ (by omega) HCUR.out HCODE.out).mono ?_
        rintro e w3 ⟨x, rfl, hx9, hC3, hB3⟩
        have hs3 : w.heap.size ≤ w3.heap.size := Nat.le_trans hszr hB3.size
        have HO3 := hid (HOWN.out.but hB3 hlt)
        have HC3 := hid hC3
        have HB3 : Hid (But B w w3) := HBUT.out.trans hB3
        clear hC3 hB3 HCUR HBUT HCODE HOWN
        obtain ⟨v', w', r1, o1, g1⟩ := HO3.out.push hs3 x (by omega)
        have HO := hid o1
        have HB' : Hid (But B w w') := HB3.out.on g1 (Nat.le_refl _)
        have HC' : Hid (Cur B (N + 6 + 60 * l.length + 60) (.slice a len cap) w') := HC3.out.on g1 hlt
        have HZ' : Hid (∀ y ∈ l ++ [x], y.data.size ≤ 9) := fun y hy => by
          rcases List.mem_append.1 hy with hy | hy
          · exact HZZ.out y hy
          · rw [List.mem_singleton.1 hy]; exact hx9
        unfold oval
        clear o1 g1 HO3 HC3 HB3 hd hx9
        go_wp2_with (at_builtin; refine wpList_append_run rfl (.tmp 16) (.tmp 19) 23 rfl _ _ rfl rfl _ _ r1 ?_)
        go_roundw
        case rel => exact ⟨j - 1, l ++ [x], _, rfl, by rw [show ((j - 1 : Nat) : Int) = (j : Int) - 1 from by omega], by rw [List.length_append]; simp; omega, HZ'.out, HO.out, HC'.out.mono (by rw [List.length_append]; simp; omega), HB'.out⟩
        case measure => simp [intOf]; omega
      · obtain rfl : j = 0 := by omega
        have hd : decide ((0 : Int) < ((0 : Nat) : Int)) = false := by decide
        have hl61 : l.length ≤ 61 := by omega
        go_wp2
        go_ret
        exact ⟨_, l, rfl, hl61, HZZ.out, HOWN.out, HCUR.out.mono (by omega), HBUT.out⟩
  · go_wp2_with fail
    refine (pick_any _ B _ len cap a _ (by omega) (by omega) (by omega) HC2.out HK2.out).mono ?_
    rintro e w9 ⟨n9, rfl, n90, n91, hC9, hB9⟩
    obtain ⟨J9, hJ9⟩ : ∃ J9 : Nat, n9 = (J9 : Int) := ⟨n9.toNat, by omega⟩
    subst hJ9
    obtain ⟨J0, hJ0⟩ : ∃ J0 : Nat, J0 = 59 + J9 := ⟨_, rfl⟩
    have hj0 : J0 ≤ 61 := by omega
    have HJ : Hid (59 + (J9 : Int) = (J0 : Int)) := by show _ = _; omega
    have HC2 : Hid (Cur B (N + 2 + 2 + 2) (.slice a len cap) w9) := hC9
    have HB2 : Hid (But B w w9) := HB2.out.trans hB9
    have HK2 : True := trivial
    clear hC9 hB9 hJ0
    go_wp2_with fail
    go_loopw [3, 4] (fun o n wr => ∃ (j : Nat) (l : List Op) (o1 : Value), o = o1 ∧ n = .int .i64 (j : Int) ∧ l.length + j ≤ 61 ∧ (∀ x ∈ l, x.data.size ≤ 9) ∧ OG w.heap.size o1 l wr ∧ Cur B (N + 6 + 60 * l.length) (.slice a len cap) wr ∧ But B w wr) (fun _ n _ => (intOf n).toNat)
    case atStart => exact ⟨J0, [], _, rfl, by first | rfl | (rw [HJ.out]), by simpa using hj0, (fun _ h => by cases h), OG.nil _ _, HC2.out.mono (by omega), HB2.out⟩
    case round =>
      clear HC2 HB2 HK2
      obtain ⟨j, l, _, rfl, rfl, hj, hz, hown, hcur, hbut⟩ := hrel
      have HOWN := hid hown
      have HCUR := hid hcur
      have HBUT := hid hbut
      have HZZ := hid hz
      have HCODE : Hid (Code B len cap a wr) := HK.out.but hbut (Nat.le_refl _) (by omega)
      have hszr := hbut.size
      clear hown hcur hbut hz
      by_cases hj1 : 0 < j
      · have hd : decide ((0 : Int) < (j : Int)) = true := decide_eq_true (by omega)
        go_wp2_with fail
        refine (volOp_any B _ len cap a _ (by omega) HCUR.out HCODE.out).mono ?_
        rintro e w3 ⟨x, rfl, hx9, hC3, hB3⟩
        have hs3 : w.heap.size ≤ w3.heap.size := Nat.le_trans hszr hB3.size
        have HO3 := hid (HOWN.out.but hB3 hlt)
        have HC3 := hid hC3
        have HB3 : Hid (But B w w3) := HBUT.out.trans hB3
        clear hC3 hB3 HCUR HBUT HCODE HOWN
        obtain ⟨v', w', r1, o1, g1⟩ := HO3.out.push hs3 x (by omega)
        have HO := hid o1
        have HB' : Hid (But B w w') := HB3.out.on g1 (Nat.le_refl _)
        have HC' : Hid (Cur B (N + 6 + 60 * l.length + 60) (.slice a len cap) w') := HC3.out.on g1 hlt
        have HZ' : Hid (∀ y ∈ l ++ [x], y.data.size ≤ 9) := fun y hy => by
          rcases List.mem_append.1 hy with hy | hy
          · exact HZZ.out y hy
          · rw [List.mem_singleton.1 hy]; exact hx9
        unfold oval
        clear o1 g1 HO3 HC3 HB3 hd hx9
        go_wp2_with (at_builtin; refine wpList_append_run rfl (.tmp 16) (.tmp 19) 23 rfl _ _ rfl rfl _ _ r1 ?_)
        go_roundw
        case rel => exact ⟨j - 1, l ++ [x], _, rfl, by rw [show ((j - 1 : Nat) : Int) = (j : Int) - 1 from by omega], by rw [List.length_append]; simp; omega, HZ'.out, HO.out, HC'.out.mono (by rw [List.length_append]; simp; omega), HB'.out⟩
        case measure => simp [intOf]; omega
      · obtain rfl : j = 0 := by omega
        have hd : decide ((0 : Int) < ((0 : Nat) : Int)) = false := by decide
        have hl61 : l.length ≤ 61 := by omega
        go_wp2
        go_ret
        exact ⟨_, l, rfl, hl61, HZZ.out, HOWN.out, HCUR.out.mono (by omega), HBUT.out⟩
end Go.Proofs.Ytlbhfgcpflhccaa
namespace Go.Proofs.Ytlbhfgcpflhccaa
set_option maxRecDepth 100000
open Go Go.ChangeShapes Go.WideShapes Go.ChangeAt Go.RowKit G00541
set_option maxHeartbeats 1000000 in
theorem splay_no (a : Option Addr) (cap : Nat) (l : List Op) (w : World) (hn : ¬ l.length ≤ 60) (hm : l.length ≤ 1048576) :
    Calls Try.prog 7 #[.slice a l.length cap] w fun e w' => POut ([], 0, [], 0) [] false w e w' := by
  have hd60 : decide ((60 : Int) < (l.length : Int)) = true := decide_eq_true (by omega)
  have g0 := boxB w (.cells #[.slice none 0 0, .int .i64 0, .slice none 0 0, .int .i64 0] 28)
  have k0 := heap_last w (.cells #[.slice none 0 0, .int .i64 0, .slice none 0 0, .int .i64 0] 28)
  generalize hW0 : w.alloc (.cells #[.slice none 0 0, .int .i64 0, .slice none 0 0, .int .i64 0] 28) = w0 at *
  obtain ⟨⟨z0, z1, z2, z3⟩, f0, f1, f2, f3⟩ := box4 k0
  have hbn := box_set (box_set (box_set (box_set k0 0 (.slice none 0 0)) 1 (.int .i64 0)) 2 (.slice none 0 0)) 3 (.int .i64 0)
  have e0 := box_cell hbn 0
  have e1 := box_cell hbn 1
  have e2 := box_cell hbn 2
  have e3 := box_cell hbn 3
  simp only [List.setIfInBounds_toArray, List.set_cons_zero, List.set_cons_succ, List.getElem?_toArray, List.getElem?_cons_zero, List.getElem?_cons_succ] at e0 e1 e2 e3
  have HB := hid (setB (setB (setB (setB g0 w.heap.size 0 (Nat.le_refl _) (.slice none 0 0)) w.heap.size 1 (Nat.le_refl _) (.int .i64 0)) w.heap.size 2 (Nat.le_refl _) (.slice none 0 0)) w.heap.size 3 (Nat.le_refl _) (.int .i64 0))
  clear g0 k0 hbn
  go_enter Try.func7, Try.ntmps7
  go_wp2_with fail
  generalize ((((w0.setCell ⟨w.heap.size, 0, none⟩ (.slice none 0 0)).setCell ⟨w.heap.size, 1, none⟩ (.int .i64 0)).setCell ⟨w.heap.size, 2, none⟩ (.slice none 0 0)).setCell ⟨w.heap.size, 3, none⟩ (.int .i64 0)) = XX at *
  refine bodyPost_ret (v := .tuple #[.agg #[.slice none 0 0, .int .i64 0, .slice none 0 0, .int .i64 0], .slice none 0 0, .bool false]) (by simp [results, Try.results7, go_sem, e0, e1, e2, e3]) rfl ?_
  exact ⟨none, 0, none, 0, none, 0, Nat.le_refl _, rfl, w.heap.size, w.heap.size, w.heap.size, w.heap.size, Nat.le_refl _, HB.out.size, Nat.le_refl _, HB.out.size, Nat.le_refl _, Nat.le_refl _, Or.inl (Nat.le_refl _), OwnV.none _ _ (Nat.le_refl _) _ _ _, Or.inl rfl, HB.out⟩
set_option maxHeartbeats 1000000 in
theorem iplay_no (a : Option Addr) (cap : Nat) (l : List Op) (w : World) (hn : ¬ l.length ≤ 60) (hm : l.length ≤ 1048576) :
    Calls Try.prog 6 #[.slice a l.length cap] w fun e w' => POut ([], 0, [], 0) [] false w e w' := by
  have hd60 : decide ((60 : Int) < (l.length : Int)) = true := decide_eq_true (by omega)
  have g0 := boxB w (.cells #[.slice none 0 0, .int .i64 0, .slice none 0 0, .int .i64 0] 28)
  have k0 := heap_last w (.cells #[.slice none 0 0, .int .i64 0, .slice none 0 0, .int .i64 0] 28)
  generalize hW0 : w.alloc (.cells #[.slice none 0 0, .int .i64 0, .slice none 0 0, .int .i64 0] 28) = w0 at *
  obtain ⟨⟨z0, z1, z2, z3⟩, f0, f1, f2, f3⟩ := box4 k0
  have hbn := box_set (box_set (box_set (box_set k0 0 (.slice none 0 0)) 1 (.int .i64 0)) 2 (.slice none 0 0)) 3 (.int .i64 0)
  have e0 := box_cell hbn 0
  have e1 := box_cell hbn 1
  have e2 := box_cell hbn 2
  have e3 := box_cell hbn 3
  simp only [List.setIfInBounds_toArray, List.set_cons_zero, List.set_cons_succ, List.getElem?_toArray, List.getElem?_cons_zero, List.getElem?_cons_succ] at e0 e1 e2 e3
  have HB := hid (setB (setB (setB (setB g0 w.heap.size 0 (Nat.le_refl _) (.slice none 0 0)) w.heap.size 1 (Nat.le_refl _) (.int .i64 0)) w.heap.size 2 (Nat.le_refl _) (.slice none 0 0)) w.heap.size 3 (Nat.le_refl _) (.int .i64 0))
  clear g0 k0 hbn
  go_enter Try.func6, Try.ntmps6
  go_wp2_with fail
  generalize ((((w0.setCell ⟨w.heap.size, 0, none⟩ (.slice none 0 0)).setCell ⟨w.heap.size, 1, none⟩ (.int .i64 0)).setCell ⟨w.heap.size, 2, none⟩ (.slice none 0 0)).setCell ⟨w.heap.size, 3, none⟩ (.int .i64 0)) = XX at *
  refine bodyPost_ret (v := .tuple #[.agg #[.slice none 0 0, .int .i64 0, .slice none 0 0, .int .i64 0], .slice none 0 0, .bool false]) (by simp [results, Try.results6, go_sem, e0, e1, e2, e3]) rfl ?_
  exact ⟨none, 0, none, 0, none, 0, Nat.le_refl _, rfl, w.heap.size, w.heap.size, w.heap.size, w.heap.size, Nat.le_refl _, HB.out.size, Nat.le_refl _, HB.out.size, Nat.le_refl _, Nat.le_refl _, Or.inl (Nat.le_refl _), OwnV.none _ _ (Nat.le_refl _) _ _ _, Or.inl rfl, HB.out⟩
theorem splay_any (a : Option Addr) (cap : Nat) (l : List Op) (w : World) (hm : l.length ≤ 1048576) (hZ : Os w.heap.size a l w) :
    Calls Try.prog 7 #[.slice a l.length cap] w fun e w' => POut (plV l) (plD l) (plOk l) w e w' := by
  unfold plV plD plOk
  by_cases h : l.length ≤ 60
  · rw [if_pos h, if_pos h, decide_eq_true h]
    exact splay_yes a cap l w h hZ
  · rw [if_neg h, if_neg h, decide_eq_false h]
    exact splay_no a cap l w h hm
theorem iplay_any (a : Option Addr) (cap : Nat) (l : List Op) (w : World) (hm : l.length ≤ 1048576) (hZ : Os w.heap.size a l w) :
    Calls Try.prog 6 #[.slice a l.length cap] w fun e w' => POut (plV l) (plD l) (plOk l) w e w' := by
  unfold plV plD plOk
  by_cases h : l.length ≤ 60
  · rw [if_pos h, if_pos h, decide_eq_true h]
    exact iplay_yes a cap l w h hZ
  · rw [if_neg h, if_neg h, decide_eq_false h]
    exact iplay_no a cap l w h hm
theorem pl_fit (l : List Op) : FitV (plV l).1 (plV l).2.2.1 ∧ (plD l).length ≤ 60 := by
  unfold plV plD
  by_cases h : l.length ≤ 60
  · rw [if_pos h, if_pos h]
    have hg := runV_good l (newV, []) GoodVol.new
    have h1 := goodBs_len hg.bs
    have h2 := hg.len
    refine ⟨⟨by omega, by omega⟩, ?_⟩
    rw [runV_len]
    simpa using h
  · rw [if_neg h, if_neg h]
    exact ⟨⟨by decide, by decide⟩, by decide⟩
/-- function f plays so -/
def TellsPl (f : Nat) (l : List Op) (V : Vol) (D : List Bool) (ok : Bool) : Prop := ∀ (q : Option Addr) (d : Nat) (v : World), Os v.heap.size q l v → Calls Try.prog f #[.slice q l.length d] v fun e w' => POut V D ok v e w'
end Go.Proofs.Ytlbhfgcpflhccaa
namespace Go.Proofs.Ytlbhfgcpflhccaa
set_option maxRecDepth 100000
open Go Go.ChangeShapes Go.WideShapes Go.ChangeAt Go.RowKit G00541
/-- while a volume is drawn: the cursor at B; the answer's box, the volume's at X, its memory in lo .. hi - 1 -/
structure Dv6 (w : World) (B N len cap : Nat) (a : Option Addr) (X : Nat) (v : Vol) (aB : Option Addr) (kB : Nat) (aL : Option Addr) (kL lo hi : Nat) (wr : World) : Prop where
  cur : Cur B N (.slice a len cap) wr
  code : Code B len cap a wr
  bz : wr.heap[w.heap.size]? = some (.cells #[.slice none 0 0, .int .i64 0, .slice none 0 0, .int .i64 0] 28)
  bv : wr.heap[X]? = some (.cells #[.slice aB v.1.length kB, .int .i64 v.2.1, .slice aL v.2.2.1.length kL, .int .i64 v.2.2.2] 28)
  own : OwnV lo hi aB v.1 aL v.2.2.1 wr
  room : v.2.2.1.length ≤ kL
  but : But B w wr
  bB : B < w.heap.size
  wx : w.heap.size < X
  wl : w.heap.size < lo
  xr : hi ≤ X ∨ X < lo
  hs : hi ≤ wr.heap.size
theorem Dv6.step {w : World} {B N N' len cap : Nat} {a : Option Addr} {X : Nat} {v : Vol} {aB : Option Addr} {kB : Nat} {aL : Option Addr} {kL lo hi : Nat} {wr w' : World} (h : Dv6 w B N len cap a X v aB kB aL kL lo hi wr) (hC : Cur B N' (.slice a len cap) w') (g : But B wr w') : Dv6 w B N' len cap a X v aB kB aL kL lo hi w' := by
  have hb := h.bB
  have hwl := h.wl
  have hwx := h.wx
  exact ⟨hC, h.code.but g (Nat.le_refl _) (Nat.le_of_lt h.cur.lt), (g.block _ (kboxV h.bz) (by omega)).trans h.bz, (g.block _ (kboxV h.bv) (by omega)).trans h.bv, h.own.same g.size (fun k h1 h2 => g.block k (by have := h.hs; omega) (by omega)), h.room, h.but.trans g, hb, hwx, hwl, h.xr, Nat.le_trans h.hs g.size⟩
/-- a number of the volume in its box is turned -/
theorem Dv6.setF {w : World} {B N len cap : Nat} {a : Option Addr} {X : Nat} {v : Vol} {aB : Option Addr} {kB : Nat} {aL : Option Addr} {kL lo hi : Nat} {wr : World} (h : Dv6 w B N len cap a X v aB kB aL kL lo hi wr) (F : Int) : Dv6 w B N len cap a X (v.1, F, v.2.2.1, v.2.2.2) aB kB aL kL lo hi (wr.setCell ⟨X, 1, none⟩ (.int .i64 F)) := by
  have hb := h.bB
  have hwx := h.wx
  have hxr := h.xr
  have hz : (wr.setCell ⟨X, 1, none⟩ (.int .i64 F)).heap.size = wr.heap.size := by simp [World.setCell]
  have hk : ∀ q, q ≠ X → (wr.setCell ⟨X, 1, none⟩ (.int .i64 F)).heap[q]? = wr.heap[q]? := fun q hq => keepB _ _ _ _ _ hq
  refine ⟨h.cur.setOther (by omega) _ _, h.code.but ((But.refl X wr).setCell _ _) (by omega) (Nat.le_of_lt h.cur.lt), (hk _ (by omega)).trans h.bz, ?_, h.own.same (by omega) (fun q h1 h2 => hk q (by omega)), h.room, h.but.setNew (by omega) _ _, hb, hwx, h.wl, hxr, by rw [hz]; exact h.hs⟩
  have := box_set h.bv 1 (.int .i64 F)
  simpa using this
theorem Dv6.setS {w : World} {B N len cap : Nat} {a : Option Addr} {X : Nat} {v : Vol} {aB : Option Addr} {kB : Nat} {aL : Option Addr} {kL lo hi : Nat} {wr : World} (h : Dv6 w B N len cap a X v aB kB aL kL lo hi wr) (s : Int) : Dv6 w B N len cap a X (v.1, v.2.1, v.2.2.1, s) aB kB aL kL lo hi (wr.setCell ⟨X, 3, none⟩ (.int .i64 s)) := by
  have hb := h.bB
  have hwx := h.wx
  have hxr := h.xr
  have hz : (wr.setCell ⟨X, 3, none⟩ (.int .i64 s)).heap.size = wr.heap.size := by simp [World.setCell]
  have hk : ∀ q, q ≠ X → (wr.setCell ⟨X, 3, none⟩ (.int .i64 s)).heap[q]? = wr.heap[q]? := fun q hq => keepB _ _ _ _ _ hq
  refine ⟨h.cur.setOther (by omega) _ _, h.code.but ((But.refl X wr).setCell _ _) (by omega) (Nat.le_of_lt h.cur.lt), (hk _ (by omega)).trans h.bz, ?_, h.own.same (by omega) (fun q h1 h2 => hk q (by omega)), h.room, h.but.setNew (by omega) _ _, hb, hwx, h.wl, hxr, by rw [hz]; exact h.hs⟩
  have := box_set h.bv 3 (.int .i64 s)
  simpa using this
/-- the first text is turned in its row -/
theorem Dv6.setB0 {w : World} {B N len cap : Nat} {a : Option Addr} {X : Nat} {v : Vol} {aB : Option Addr} {kB : Nat} {aL : Option Addr} {kL lo hi : Nat} {wr : World} (h : Dv6 w B N len cap a X v aB kB aL kL lo hi wr) (h0 : 0 < v.1.length) (D : ByteArray) : ∃ R, aB = some ⟨R, 0, none⟩ ∧ wr.cell? ⟨R, 0, none⟩ = some (.string v.1[0]) ∧ wr.frozen? ⟨R, 0, none⟩ = false ∧ Dv6 w B N len cap a X (v.1.set 0 D, v.2.1, v.2.2.1, v.2.2.2) aB kB aL kL lo hi (wr.setCell ⟨R, 0, none⟩ (.string D)) := by
  have hb := h.bB
  have hwx := h.wx
  have hwl := h.wl
  have hxr := h.xr
  obtain ⟨mid, m1, m2, hS, hR⟩ := h.own
  rcases hS with e | ⟨R, r1, r2, e, hr⟩
  · rw [e] at h0; exact absurd h0 (Nat.lt_irrefl _)
  subst e
  have hz : (wr.setCell ⟨R, 0, none⟩ (.string D)).heap.size = wr.heap.size := by simp [World.setCell]
  have hk : ∀ q, q ≠ R → (wr.setCell ⟨R, 0, none⟩ (.string D)).heap[q]? = wr.heap[q]? := fun q hq => keepB _ _ _ _ _ hq
  refine ⟨R, rfl, hr.cell 0 h0, hr.free 0 h0, ⟨h.cur.setOther (by omega) _ _, h.code.but ((But.refl R wr).setCell _ _) (by omega) (Nat.le_of_lt h.cur.lt), (hk _ (by omega)).trans h.bz, ?_, ?_, h.room, h.but.setNew (by omega) _ _, hb, hwx, hwl, hxr, by rw [hz]; exact h.hs⟩⟩
  · rw [hk _ (by omega), h.bv, List.length_set]
  · refine ⟨mid, m1, m2, Or.inr ⟨R, r1, r2, rfl, hr.set 0 h0 D⟩, ?_⟩
    rcases hR with e | ⟨R2, q1, q2, e, hr2⟩
    · exact Or.inl e
    · exact Or.inr ⟨R2, q1, q2, e, hr2.same (by omega) (hk R2 (by omega))⟩
/-- what a drawn volume is -/
def VolD (w : World) (B N len cap : Nat) (a : Option Addr) (e : Ending) (w' : World) : Prop := ∃ (v : Vol) (aB : Option Addr) (kB : Nat) (aL : Option Addr) (kL lo hi : Nat), e = .returned (.agg #[.slice aB v.1.length kB, .int .i64 v.2.1, .slice aL v.2.2.1.length kL, .int .i64 v.2.2.2]) ∧ v.1.length = 16 ∧ (∀ x ∈ v.1, x.size ≤ 8) ∧ v.2.2.1.length ≤ 40 ∧ goodL v.2.2.1 = true ∧ v.2.2.1.length ≤ kL ∧ w.heap.size ≤ lo ∧ hi ≤ w'.heap.size ∧ OwnV lo hi aB v.1 aL v.2.2.1 w' ∧ Cur B N (.slice a len cap) w' ∧ But B w w'
theorem Dv6.done {w : World} {B N N' len cap : Nat} {a : Option Addr} {X : Nat} {v : Vol} {aB : Option Addr} {kB : Nat} {aL : Option Addr} {kL lo hi : Nat} {wr : World} (h : Dv6 w B N len cap a X v aB kB aL kL lo hi wr) (h16 : v.1.length = 16) (h8 : ∀ x ∈ v.1, x.size ≤ 8) (h40 : v.2.2.1.length ≤ 40) (hg : goodL v.2.2.1 = true) (hN : N ≤ N') :
    VolD w B N' len cap a (.returned (.agg #[.slice aB v.1.length kB, .int .i64 v.2.1, .slice aL v.2.2.1.length kL, .int .i64 v.2.2.2])) ((((wr.setCell ⟨w.heap.size, 0, none⟩ (.slice aB v.1.length kB)).setCell ⟨w.heap.size, 1, none⟩ (.int .i64 v.2.1)).setCell ⟨w.heap.size, 2, none⟩ (.slice aL v.2.2.1.length kL)).setCell ⟨w.heap.size, 3, none⟩ (.int .i64 v.2.2.2)) := by
  have hb := h.bB
  have hwl := h.wl
  have hz : ((((wr.setCell ⟨w.heap.size, 0, none⟩ (.slice aB v.1.length kB)).setCell ⟨w.heap.size, 1, none⟩ (.int .i64 v.2.1)).setCell ⟨w.heap.size, 2, none⟩ (.slice aL v.2.2.1.length kL)).setCell ⟨w.heap.size, 3, none⟩ (.int .i64 v.2.2.2)).heap.size = wr.heap.size := by simp [World.setCell]
  have hk : ∀ q, q ≠ w.heap.size → ((((wr.setCell ⟨w.heap.size, 0, none⟩ (.slice aB v.1.length kB)).setCell ⟨w.heap.size, 1, none⟩ (.int .i64 v.2.1)).setCell ⟨w.heap.size, 2, none⟩ (.slice aL v.2.2.1.length kL)).setCell ⟨w.heap.size, 3, none⟩ (.int .i64 v.2.2.2)).heap[q]? = wr.heap[q]? := fun q h1 => by
    rw [keepB _ _ _ _ _ h1, keepB _ _ _ _ _ h1, keepB _ _ _ _ _ h1, keepB _ _ _ _ _ h1]
  exact ⟨v, aB, kB, aL, kL, lo, hi, rfl, h16, h8, h40, hg, h.room, by omega, by rw [hz]; exact h.hs, h.own.same (by omega) (fun q h1 h2 => hk q (by omega)), ((((h.cur.setOther (by omega) _ _).setOther (by omega) _ _).setOther (by omega) _ _).setOther (by omega) _ _).mono hN, (((h.but.setNew (Nat.le_refl _) _ _).setNew (Nat.le_refl _) _ _).setNew (Nat.le_refl _) _ _).setNew (Nat.le_refl _) _ _⟩
theorem sizes8 {v : Vol} (h : GoodVol v) : ∀ x ∈ v.1, x.size ≤ 8 := fun x hx => by
  obtain ⟨i, hi, rfl⟩ := List.getElem_of_mem hx
  have := goodBs_two h.bs i hi
  omega
end Go.Proofs.Ytlbhfgcpflhccaa
namespace Go.Proofs.Ytlbhfgcpflhccaa
set_option maxRecDepth 100000
open Go Go.ChangeShapes Go.WideShapes Go.ChangeAt Go.RowKit G00541
set_option maxHeartbeats 3000000 in
theorem volume_any (B N len cap : Nat) (a : Option Addr) (w : World) (hN : N ≤ 870000) (hC : Cur B N (.slice a len cap) w) (hK : Code B len cap a w) :
    Calls Try.prog 47 #[.pointer (some ⟨B, 0, none⟩)] w fun e w' => VolD w B (N + 4100) len cap a e w' := by
  have hlt := hC.lt
  have g0 := boxB w (.cells #[.slice none 0 0, .int .i64 0, .slice none 0 0, .int .i64 0] 28)
  have k0 := heap_last w (.cells #[.slice none 0 0, .int .i64 0, .slice none 0 0, .int .i64 0] 28)
  have z0 := heap_size w (.cells #[.slice none 0 0, .int .i64 0, .slice none 0 0, .int .i64 0] 28)
  have hC0 := hC.alloc (.cells #[.slice none 0 0, .int .i64 0, .slice none 0 0, .int .i64 0] 28)
  have hK0 := hK.but ((But.refl B w).alloc (.cells #[.slice none 0 0, .int .i64 0, .slice none 0 0, .int .i64 0] 28)) (Nat.le_refl _) (Nat.le_of_lt hlt)
  have hB0 := (But.refl B w).alloc (.cells #[.slice none 0 0, .int .i64 0, .slice none 0 0, .int .i64 0] 28)
  generalize hW0 : w.alloc (.cells #[.slice none 0 0, .int .i64 0, .slice none 0 0, .int .i64 0] 28) = w0 at *
  have HC0 := hid hC0
  have HK0 := hid hK0
  have HB0 := hid hB0
  have HX0 := hid k0
  have HZ0 := hid z0
  clear g0 k0 z0 hC0 hK0 hB0 hC hK
  go_enter Try.func47, Try.ntmps47
  go_wp2_with fail
  clear hW0
  refine (volOps_any B N len cap a _ (by omega) HC0.out HK0.out).mono ?_
  rintro e w1 ⟨ov, l, rfl, hl, hz9, og, hC1, hB1⟩
  obtain ⟨ba, bc, rfl, ho⟩ := og.own
  have HPL := hid (splay_any ba bc l w1 (by omega) ho.os)
  have HC1 := hid hC1
  have HB1 : Hid (But B w w1) := HB0.out.trans hB1
  have HX1 : Hid (w1.heap[w.heap.size]? = some (.cells #[.slice none 0 0, .int .i64 0, .slice none 0 0, .int .i64 0] 28)) := (hB1.block _ (kboxV HX0.out) (by omega)).trans HX0.out
  have HK1 : Hid (Code B len cap a w1) := HK0.out.but hB1 (Nat.le_refl _) (by have := HZ0.out; omega)
  have hs1 := hB1.size
  have hz0 := HZ0.out
  have hs01 : w.heap.size < w1.heap.size := by omega
  clear og ho hz9 hC1 hB1 HC0 HK0 HB0 HX0 hz0 hs1
  by_cases h60 : l.length ≤ 60
  · have e1 : plOk l = true := decide_eq_true h60
    have e2 : plV l = (runV l (newV, [])).1 := if_pos h60
    have HG : Hid (GoodVol (plV l)) := by show GoodVol _; rw [e2]; exact runV_good l (newV, []) GoodVol.new
    rw [e1] at HPL
    clear e1 e2 h60
    generalize plV l = v at *
    generalize plD l = d at *
    go_wp2_with fail
    refine HPL.out.mono ?_
    rintro e w2 ⟨aB, kB, aL, kL, da, dk, hcap, rfl, lo, hi, l2, h2, i1, i2, i3, i4, i5, i6, i7, hov, -, g2⟩
    have gX := boxB w2 (.cells #[.slice aB v.1.length kB, .int .i64 v.2.1, .slice aL v.2.2.1.length kL, .int .i64 v.2.2.2] 28)
    have kX := heap_last w2 (.cells #[.slice aB v.1.length kB, .int .i64 v.2.1, .slice aL v.2.2.1.length kL, .int .i64 v.2.2.2] 28)
    have hDv : Dv6 w B (N + 4000) len cap a w2.heap.size v aB kB aL kL lo hi (w2.alloc (.cells #[.slice aB v.1.length kB, .int .i64 v.2.1, .slice aL v.2.2.1.length kL, .int .i64 v.2.2.2] 28)) := by
      have gg := g2.trans (gX.mono g2.size)
      have hsX := gX.size
      exact ⟨HC1.out.on gg (by omega), HK1.out.but (But.ofBelow gg) (Nat.le_refl _) (by omega), (gg.block _ (kboxV HX1.out)).trans HX1.out, kX, hov.below gX, hcap, HB1.out.trans (But.ofBelow gg), hlt, by have := g2.size; omega, by omega, Or.inl i2, by omega⟩
    have HD := hid hDv
    clear hDv gX kX hov g2 HPL HC1 HB1 HX1 HK1 i1 i2 i3 i4 i5 i6 i7 hcap
    go_wp2_with fail
    generalize w2.alloc (.cells #[.slice aB v.1.length kB, .int .i64 v.2.1, .slice aL v.2.2.1.length kL, .int .i64 v.2.2.2] 28) = w3 at *
    generalize w2.heap.size = X at *
    refine (pick_any 30 B _ len cap a _ (by omega) (by omega) (by omega) HD.out.cur HD.out.code).mono ?_
    rintro e w5 ⟨x, rfl, x0, x1, hC5, hB5⟩
    have h5 : Dv6 w B (N + 4000 + 2) len cap a X v aB kB aL kL lo hi w5 := HD.out.step hC5 hB5
    clear hC5 hB5 HD
    rcases (show x = 0 ∨ x = 1 ∨ x = 2 ∨ 3 ≤ x by omega) with rfl | rfl | rfl | h3
    · obtain ⟨⟨q0, q1, q2, q3⟩, g0, g1, g2, g3⟩ := box4 h5.bv
      have h6 := h5.setS (v.2.2.2 + 1)
      have hs := HG.out.s0
      have hs' := HG.out.s1
      have hs'' := HG.out.len
      have hs2 : v.2.2.2 ≤ 40 := by omega
      have H16 := hid (goodBs_len HG.out.bs)
      clear hs' hs'' h5
      obtain ⟨⟨z0, z1, z2, z3⟩, f0, f1, f2, f3⟩ := box4 h6.bz
      obtain ⟨⟨v0, v1, v2, v3⟩, -⟩ := box4 h6.bv
      have hbn := box_set (box_set (box_set (box_set h6.bz 0 (.slice aB v.1.length kB)) 1 (.int .i64 v.2.1)) 2 (.slice aL v.2.2.1.length kL)) 3 (.int .i64 (v.2.2.2 + 1))
      have e0 := box_cell hbn 0
      have e1 := box_cell hbn 1
      have e2 := box_cell hbn 2
      have e3 := box_cell hbn 3
      simp only [List.setIfInBounds_toArray, List.set_cons_zero, List.set_cons_succ, List.getElem?_toArray, List.getElem?_cons_zero, List.getElem?_cons_succ] at e0 e1 e2 e3
      have HF := hid (h6.done (N' := N + 4100) H16.out (fun x hx => sizes8 (v := v) HG.out x hx) HG.out.len HG.out.recs (by omega))
      clear hbn
      simp only at HF
      go_wp2_with fail
      generalize (((((w5.setCell ⟨X, 3, none⟩ (.int .i64 (v.2.2.2 + 1))).setCell ⟨w.heap.size, 0, none⟩ (.slice aB v.1.length kB)).setCell ⟨w.heap.size, 1, none⟩ (.int .i64 v.2.1)).setCell ⟨w.heap.size, 2, none⟩ (.slice aL v.2.2.1.length kL)).setCell ⟨w.heap.size, 3, none⟩ (.int .i64 (v.2.2.2 + 1))) = XX at *
      refine bodyPost_ret (v := .agg #[.slice aB v.1.length kB, .int .i64 v.2.1, .slice aL v.2.2.1.length kL, .int .i64 (v.2.2.2 + 1)]) (by simp [results, Try.results47, go_sem, e0, e1, e2, e3]) rfl ?_
      exact HF.out
    · have H16 := hid (goodBs_len HG.out.bs)
      have hl0 : 0 < v.1.length := by rw [H16.out]; decide
      have hl0i : (0 : Int) < (v.1.length : Int) := by omega
      obtain ⟨⟨q0, q1, q2, q3⟩, g0, g1, g2, g3⟩ := box4 h5.bv
      obtain ⟨R, rfl, cR, fR, h6⟩ := h5.setB0 hl0 ⟨#[108, 111, 110, 103]⟩
      have HSZ : Hid (∀ x ∈ v.1.set 0 ⟨#[108, 111, 110, 103]⟩, x.size ≤ 8) := fun x hx => by
        rcases List.mem_or_eq_of_mem_set hx with hx | hx
        · exact sizes8 (v := v) HG.out x hx
        · subst hx; decide
      have H16' : Hid ((v.1.set 0 (⟨#[108, 111, 110, 103]⟩ : ByteArray)).length = 16) := by show _ = _; rw [List.length_set]; exact H16.out
      clear h5
      obtain ⟨⟨z0, z1, z2, z3⟩, f0, f1, f2, f3⟩ := box4 h6.bz
      obtain ⟨⟨v0, v1, v2, v3⟩, -⟩ := box4 h6.bv
      have hbn := box_set (box_set (box_set (box_set h6.bz 0 (.slice (some ⟨R, 0, none⟩) v.1.length kB)) 1 (.int .i64 v.2.1)) 2 (.slice aL v.2.2.1.length kL)) 3 (.int .i64 v.2.2.2)
      have e0 := box_cell hbn 0
      have e1 := box_cell hbn 1
      have e2 := box_cell hbn 2
      have e3 := box_cell hbn 3
      simp only [List.setIfInBounds_toArray, List.set_cons_zero, List.set_cons_succ, List.getElem?_toArray, List.getElem?_cons_zero, List.getElem?_cons_succ] at e0 e1 e2 e3
      have HF := hid (h6.done (N' := N + 4100) H16'.out (fun x hx => HSZ.out x hx) HG.out.len HG.out.recs (by omega))
      clear hbn
      simp only [List.length_set] at HF v0 e0
      go_wp2_with fail
      generalize (((((w5.setCell ⟨R, 0, none⟩ (.string ⟨#[108, 111, 110, 103]⟩)).setCell ⟨w.heap.size, 0, none⟩ (.slice (some ⟨R, 0, none⟩) v.1.length kB)).setCell ⟨w.heap.size, 1, none⟩ (.int .i64 v.2.1)).setCell ⟨w.heap.size, 2, none⟩ (.slice aL v.2.2.1.length kL)).setCell ⟨w.heap.size, 3, none⟩ (.int .i64 v.2.2.2)) = XX at *
      refine bodyPost_ret (v := .agg #[.slice (some ⟨R, 0, none⟩) v.1.length kB, .int .i64 v.2.1, .slice aL v.2.2.1.length kL, .int .i64 v.2.2.2]) (by simp [results, Try.results47, go_sem, e0, e1, e2, e3]) rfl ?_
      exact HF.out
    · have HL : Hid (∀ i, i < [-1, 7, 200, 201].length → (w5.alloc (.cells #[.int .i64 (-1), .int .i64 7, .int .i64 200, .int .i64 201] 3)).cell? ⟨w5.heap.size, i, none⟩ = some (.int .i64 (([-1, 7, 200, 201] : List Int).getD i 0))) := fun i hi => lits_at [-1, 7, 200, 201] w5 i hi
      have H5 := hid h5
      have hB5 := h5.cur.lt
      have hc5 := h5.code
      have HC5 : Hid (Code B len cap a (w5.alloc (.cells #[.int .i64 (-1), .int .i64 7, .int .i64 200, .int .i64 201] 3))) := hc5.but ((But.refl B w5).alloc _) (Nat.le_refl _) (Nat.le_of_lt hB5)
      have H16 := hid (goodBs_len HG.out.bs)
      clear h5 hc5
      go_wp2_with fail
      refine (among_any [-1, 7, 200, 201] 4 w5.heap.size B _ len cap 4 a _ rfl (by decide) (by decide) (by simp) (by omega) HL.out (by omega) (H5.out.cur.alloc _) HC5.out).mono ?_
      rintro e w6 ⟨i, _, rfl, hC6, hB6⟩
      have h6 := (H5.out.step (H5.out.cur.alloc _) ((But.refl B w5).alloc _)).step hC6 hB6
      generalize ([-1, 7, 200, 201] : List Int).getD i 0 = zf at *
      obtain ⟨⟨q0, q1, q2, q3⟩, g0, g1, g2, g3⟩ := box4 h6.bv
      have h7 := h6.setF zf
      clear hC6 hB6 h6 HL HC5 H5
      obtain ⟨⟨z0, z1, z2, z3⟩, f0, f1, f2, f3⟩ := box4 h7.bz
      obtain ⟨⟨v0, v1, v2, v3⟩, -⟩ := box4 h7.bv
      have hbn := box_set (box_set (box_set (box_set h7.bz 0 (.slice aB v.1.length kB)) 1 (.int .i64 zf)) 2 (.slice aL v.2.2.1.length kL)) 3 (.int .i64 v.2.2.2)
      have e0 := box_cell hbn 0
      have e1 := box_cell hbn 1
      have e2 := box_cell hbn 2
      have e3 := box_cell hbn 3
      simp only [List.setIfInBounds_toArray, List.set_cons_zero, List.set_cons_succ, List.getElem?_toArray, List.getElem?_cons_zero, List.getElem?_cons_succ] at e0 e1 e2 e3
      have HF := hid (h7.done (N' := N + 4100) H16.out (fun x hx => sizes8 (v := v) HG.out x hx) HG.out.len HG.out.recs (by omega))
      clear hbn
      simp only at HF
      go_wp2_with fail
      generalize (((((w6.setCell ⟨X, 1, none⟩ (.int .i64 zf)).setCell ⟨w.heap.size, 0, none⟩ (.slice aB v.1.length kB)).setCell ⟨w.heap.size, 1, none⟩ (.int .i64 zf)).setCell ⟨w.heap.size, 2, none⟩ (.slice aL v.2.2.1.length kL)).setCell ⟨w.heap.size, 3, none⟩ (.int .i64 v.2.2.2)) = XX at *
      refine bodyPost_ret (v := .agg #[.slice aB v.1.length kB, .int .i64 zf, .slice aL v.2.2.1.length kL, .int .i64 v.2.2.2]) (by simp [results, Try.results47, go_sem, e0, e1, e2, e3]) rfl ?_
      exact HF.out
    · have b0 : (x == 0) = false := by simp; omega
      have b1 : (x == 1) = false := by simp; omega
      have b2 : (x == 2) = false := by simp; omega
      have H16 := hid (goodBs_len HG.out.bs)
      obtain ⟨⟨z0, z1, z2, z3⟩, f0, f1, f2, f3⟩ := box4 h5.bz
      obtain ⟨⟨v0, v1, v2, v3⟩, -⟩ := box4 h5.bv
      have hbn := box_set (box_set (box_set (box_set h5.bz 0 (.slice aB v.1.length kB)) 1 (.int .i64 v.2.1)) 2 (.slice aL v.2.2.1.length kL)) 3 (.int .i64 v.2.2.2)
      have e0 := box_cell hbn 0
      have e1 := box_cell hbn 1
      have e2 := box_cell hbn 2
      have e3 := box_cell hbn 3
      simp only [List.setIfInBounds_toArray, List.set_cons_zero, List.set_cons_succ, List.getElem?_toArray, List.getElem?_cons_zero, List.getElem?_cons_succ] at e0 e1 e2 e3
      have HF := hid (h5.done (N' := N + 4100) H16.out (sizes8 HG.out) HG.out.len HG.out.recs (by omega))
      clear hbn
      go_wp2_with fail
      generalize ((((w5.setCell ⟨w.heap.size, 0, none⟩ (.slice aB v.1.length kB)).setCell ⟨w.heap.size, 1, none⟩ (.int .i64 v.2.1)).setCell ⟨w.heap.size, 2, none⟩ (.slice aL v.2.2.1.length kL)).setCell ⟨w.heap.size, 3, none⟩ (.int .i64 v.2.2.2)) = XX at *
      refine bodyPost_ret (v := .agg #[.slice aB v.1.length kB, .int .i64 v.2.1, .slice aL v.2.2.1.length kL, .int .i64 v.2.2.2]) (by simp [results, Try.results47, go_sem, e0, e1, e2, e3]) rfl ?_
      exact HF.out
  · have e1 : plOk l = false := decide_eq_false h60
    have e2 : plV l = ([], 0, [], 0) := if_neg h60
    rw [e1, e2] at HPL
    clear e1 e2 h60
    generalize plD l = d at *
    unfold POut at HPL
    simp only [List.length_nil] at HPL
    go_wp2_with fail
    refine HPL.out.mono ?_
    rintro e w2 ⟨aB0, kB0, aL0, kL0, da, dk, -, rfl, lo0, hi0, l2, h2, i1, i2, i3, i4, i5, i6, i7, -, -, g2⟩
    have gX := boxB w2 (.cells #[.slice aB0 0 kB0, .int .i64 0, .slice aL0 0 kL0, .int .i64 0] 28)
    have kX := heap_last w2 (.cells #[.slice aB0 0 kB0, .int .i64 0, .slice aL0 0 kL0, .int .i64 0] 28)
    have HG2 := hid g2
    have HGX := hid gX
    have HKX := hid kX
    clear i1 i2 i3 i4 i5 i6 i7 gX kX g2 HPL
    go_wp2_with fail
    generalize w2.alloc (.cells #[.slice aB0 0 kB0, .int .i64 0, .slice aL0 0 kL0, .int .i64 0] 28) = w3 at *
    refine (snew_any _).mono ?_
    rintro e w4 ⟨b, c, rfl, o4, g4⟩
    have hX4 := (g4.block _ (kboxV HKX.out)).trans HKX.out
    obtain ⟨⟨y0, y1, y2, y3⟩, j0, j1, j2, j3⟩ := box4 hX4
    have hDv : Dv6 w B (N + 4000) len cap a w2.heap.size newV b c none 0 w3.heap.size w4.heap.size ((((w4.setCell ⟨w2.heap.size, 0, none⟩ (.slice b 16 c)).setCell ⟨w2.heap.size, 1, none⟩ (.int .i64 0)).setCell ⟨w2.heap.size, 2, none⟩ (.slice none 0 0)).setCell ⟨w2.heap.size, 3, none⟩ (.int .i64 0)) := by
      have g3 := HG2.out.trans (HGX.out.mono HG2.out.size)
      have gg := g3.trans (g4.mono g3.size)
      have hs2 := HG2.out.size
      have hs3 := kboxV HKX.out
      have hs4 := g4.size
      have hk : ∀ q, q ≠ w2.heap.size → ((((w4.setCell ⟨w2.heap.size, 0, none⟩ (.slice b 16 c)).setCell ⟨w2.heap.size, 1, none⟩ (.int .i64 0)).setCell ⟨w2.heap.size, 2, none⟩ (.slice none 0 0)).setCell ⟨w2.heap.size, 3, none⟩ (.int .i64 0)).heap[q]? = w4.heap[q]? := fun q h1 => by
        rw [keepB _ _ _ _ _ h1, keepB _ _ _ _ _ h1, keepB _ _ _ _ _ h1, keepB _ _ _ _ _ h1]
      have hzz : ((((w4.setCell ⟨w2.heap.size, 0, none⟩ (.slice b 16 c)).setCell ⟨w2.heap.size, 1, none⟩ (.int .i64 0)).setCell ⟨w2.heap.size, 2, none⟩ (.slice none 0 0)).setCell ⟨w2.heap.size, 3, none⟩ (.int .i64 0)).heap.size = w4.heap.size := by simp [World.setCell]
      have hbt : But B w ((((w4.setCell ⟨w2.heap.size, 0, none⟩ (.slice b 16 c)).setCell ⟨w2.heap.size, 1, none⟩ (.int .i64 0)).setCell ⟨w2.heap.size, 2, none⟩ (.slice none 0 0)).setCell ⟨w2.heap.size, 3, none⟩ (.int .i64 0)) := ((((HB1.out.trans (But.ofBelow gg)).setNew (by omega) _ _).setNew (by omega) _ _).setNew (by omega) _ _).setNew (by omega) _ _
      refine ⟨((((HC1.out.on gg (by omega)).setOther (by omega) _ _).setOther (by omega) _ _).setOther (by omega) _ _).setOther (by omega) _ _, ((((HK1.out.but (But.ofBelow gg) (Nat.le_refl _) (by omega)).but ((But.refl w2.heap.size w4).setCell _ _) (by omega) (by omega)).but ((But.refl w2.heap.size _).setCell _ _) (by omega) (by simp [World.setCell]; omega)).but ((But.refl w2.heap.size _).setCell _ _) (by omega) (by simp [World.setCell]; omega)).but ((But.refl w2.heap.size _).setCell _ _) (by omega) (by simp [World.setCell]; omega), (hk _ (by omega)).trans ((gg.block _ (kboxV HX1.out)).trans HX1.out), ?_, o4.same (by omega) (fun q h1 h2 => hk q (by omega)), by decide, hbt, hlt, by omega, by omega, Or.inr hs3, by omega⟩
      have := box_set (box_set (box_set (box_set hX4 0 (.slice b 16 c)) 1 (.int .i64 0)) 2 (.slice none 0 0)) 3 (.int .i64 0)
      have h9 : ((((w4.setCell ⟨w2.heap.size, 0, none⟩ (.slice b 16 c)).setCell ⟨w2.heap.size, 1, none⟩ (.int .i64 0)).setCell ⟨w2.heap.size, 2, none⟩ (.slice none 0 0)).setCell ⟨w2.heap.size, 3, none⟩ (.int .i64 0)).heap[w2.heap.size]? = some (.cells #[.slice b 16 c, .int .i64 0, .slice none 0 0, .int .i64 0] 28) := by simpa using this
      exact h9
    have HD := hid hDv
    have HG := hid GoodVol.new
    clear hDv o4 g4 hX4 HG2 HGX HKX HC1 HB1 HX1 HK1
    go_wp2_with fail
    generalize ((((w4.setCell ⟨w2.heap.size, 0, none⟩ (.slice b 16 c)).setCell ⟨w2.heap.size, 1, none⟩ (.int .i64 0)).setCell ⟨w2.heap.size, 2, none⟩ (.slice none 0 0)).setCell ⟨w2.heap.size, 3, none⟩ (.int .i64 0)) = w5a at *
    generalize w2.heap.size = X at *
    generalize newV = v at *
    generalize w3.heap.size = lo at *
    generalize w4.heap.size = hi at *
    obtain ⟨aB, haB⟩ : ∃ aB, aB = b := ⟨_, rfl⟩
    obtain ⟨kB, hkB⟩ : ∃ kB, kB = c := ⟨_, rfl⟩
    subst haB; subst hkB
    obtain ⟨aL, haL⟩ : ∃ aL : Option Addr, aL = none := ⟨_, rfl⟩
    obtain ⟨kL, hkL⟩ : ∃ kL : Nat, kL = 0 := ⟨_, rfl⟩
    rw [← haL, ← hkL] at HD
    clear haL hkL
    refine (pick_any 30 B _ len cap a _ (by omega) (by omega) (by omega) HD.out.cur HD.out.code).mono ?_
    rintro e w5 ⟨x, rfl, x0, x1, hC5, hB5⟩
    have h5 : Dv6 w B (N + 4000 + 2) len cap a X v aB kB aL kL lo hi w5 := HD.out.step hC5 hB5
    clear hC5 hB5 HD
    rcases (show x = 0 ∨ x = 1 ∨ x = 2 ∨ 3 ≤ x by omega) with rfl | rfl | rfl | h3
    · obtain ⟨⟨q0, q1, q2, q3⟩, g0, g1, g2, g3⟩ := box4 h5.bv
      have h6 := h5.setS (v.2.2.2 + 1)
      have hs := HG.out.s0
      have hs' := HG.out.s1
      have hs'' := HG.out.len
      have hs2 : v.2.2.2 ≤ 40 := by omega
      have H16 := hid (goodBs_len HG.out.bs)
      clear hs' hs'' h5
      obtain ⟨⟨z0, z1, z2, z3⟩, f0, f1, f2, f3⟩ := box4 h6.bz
      obtain ⟨⟨v0, v1, v2, v3⟩, -⟩ := box4 h6.bv
      have hbn := box_set (box_set (box_set (box_set h6.bz 0 (.slice aB v.1.length kB)) 1 (.int .i64 v.2.1)) 2 (.slice aL v.2.2.1.length kL)) 3 (.int .i64 (v.2.2.2 + 1))
      have e0 := box_cell hbn 0
      have e1 := box_cell hbn 1
      have e2 := box_cell hbn 2
      have e3 := box_cell hbn 3
      simp only [List.setIfInBounds_toArray, List.set_cons_zero, List.set_cons_succ, List.getElem?_toArray, List.getElem?_cons_zero, List.getElem?_cons_succ] at e0 e1 e2 e3
      have HF := hid (h6.done (N' := N + 4100) H16.out (fun x hx => sizes8 (v := v) HG.out x hx) HG.out.len HG.out.recs (by omega))
      clear hbn
      simp only at HF
      go_wp2_with fail
      generalize (((((w5.setCell ⟨X, 3, none⟩ (.int .i64 (v.2.2.2 + 1))).setCell ⟨w.heap.size, 0, none⟩ (.slice aB v.1.length kB)).setCell ⟨w.heap.size, 1, none⟩ (.int .i64 v.2.1)).setCell ⟨w.heap.size, 2, none⟩ (.slice aL v.2.2.1.length kL)).setCell ⟨w.heap.size, 3, none⟩ (.int .i64 (v.2.2.2 + 1))) = XX at *
      refine bodyPost_ret (v := .agg #[.slice aB v.1.length kB, .int .i64 v.2.1, .slice aL v.2.2.1.length kL, .int .i64 (v.2.2.2 + 1)]) (by simp [results, Try.results47, go_sem, e0, e1, e2, e3]) rfl ?_
      exact HF.out
    · have H16 := hid (goodBs_len HG.out.bs)
      have hl0 : 0 < v.1.length := by rw [H16.out]; decide
      have hl0i : (0 : Int) < (v.1.length : Int) := by omega
      obtain ⟨⟨q0, q1, q2, q3⟩, g0, g1, g2, g3⟩ := box4 h5.bv
      obtain ⟨R, rfl, cR, fR, h6⟩ := h5.setB0 hl0 ⟨#[108, 111, 110, 103]⟩
      have HSZ : Hid (∀ x ∈ v.1.set 0 ⟨#[108, 111, 110, 103]⟩, x.size ≤ 8) := fun x hx => by
        rcases List.mem_or_eq_of_mem_set hx with hx | hx
        · exact sizes8 (v := v) HG.out x hx
        · subst hx; decide
      have H16' : Hid ((v.1.set 0 (⟨#[108, 111, 110, 103]⟩ : ByteArray)).length = 16) := by show _ = _; rw [List.length_set]; exact H16.out
      clear h5
      obtain ⟨⟨z0, z1, z2, z3⟩, f0, f1, f2, f3⟩ := box4 h6.bz
      obtain ⟨⟨v0, v1, v2, v3⟩, -⟩ := box4 h6.bv
      have hbn := box_set (box_set (box_set (box_set h6.bz 0 (.slice (some ⟨R, 0, none⟩) v.1.length kB)) 1 (.int .i64 v.2.1)) 2 (.slice aL v.2.2.1.length kL)) 3 (.int .i64 v.2.2.2)
      have e0 := box_cell hbn 0
      have e1 := box_cell hbn 1
      have e2 := box_cell hbn 2
      have e3 := box_cell hbn 3
      simp only [List.setIfInBounds_toArray, List.set_cons_zero, List.set_cons_succ, List.getElem?_toArray, List.getElem?_cons_zero, List.getElem?_cons_succ] at e0 e1 e2 e3
      have HF := hid (h6.done (N' := N + 4100) H16'.out (fun x hx => HSZ.out x hx) HG.out.len HG.out.recs (by omega))
      clear hbn
      simp only [List.length_set] at HF v0 e0
      go_wp2_with fail
      generalize (((((w5.setCell ⟨R, 0, none⟩ (.string ⟨#[108, 111, 110, 103]⟩)).setCell ⟨w.heap.size, 0, none⟩ (.slice (some ⟨R, 0, none⟩) v.1.length kB)).setCell ⟨w.heap.size, 1, none⟩ (.int .i64 v.2.1)).setCell ⟨w.heap.size, 2, none⟩ (.slice aL v.2.2.1.length kL)).setCell ⟨w.heap.size, 3, none⟩ (.int .i64 v.2.2.2)) = XX at *
      refine bodyPost_ret (v := .agg #[.slice (some ⟨R, 0, none⟩) v.1.length kB, .int .i64 v.2.1, .slice aL v.2.2.1.length kL, .int .i64 v.2.2.2]) (by simp [results, Try.results47, go_sem, e0, e1, e2, e3]) rfl ?_
      exact HF.out
    · have HL : Hid (∀ i, i < [-1, 7, 200, 201].length → (w5.alloc (.cells #[.int .i64 (-1), .int .i64 7, .int .i64 200, .int .i64 201] 3)).cell? ⟨w5.heap.size, i, none⟩ = some (.int .i64 (([-1, 7, 200, 201] : List Int).getD i 0))) := fun i hi => lits_at [-1, 7, 200, 201] w5 i hi
      have H5 := hid h5
      have hB5 := h5.cur.lt
      have hc5 := h5.code
      have HC5 : Hid (Code B len cap a (w5.alloc (.cells #[.int .i64 (-1), .int .i64 7, .int .i64 200, .int .i64 201] 3))) := hc5.but ((But.refl B w5).alloc _) (Nat.le_refl _) (Nat.le_of_lt hB5)
      have H16 := hid (goodBs_len HG.out.bs)
      clear h5 hc5
      go_wp2_with fail
      refine (among_any [-1, 7, 200, 201] 4 w5.heap.size B _ len cap 4 a _ rfl (by decide) (by decide) (by simp) (by omega) HL.out (by omega) (H5.out.cur.alloc _) HC5.out).mono ?_
      rintro e w6 ⟨i, _, rfl, hC6, hB6⟩
      have h6 := (H5.out.step (H5.out.cur.alloc _) ((But.refl B w5).alloc _)).step hC6 hB6
      generalize ([-1, 7, 200, 201] : List Int).getD i 0 = zf at *
      obtain ⟨⟨q0, q1, q2, q3⟩, g0, g1, g2, g3⟩ := box4 h6.bv
      have h7 := h6.setF zf
      clear hC6 hB6 h6 HL HC5 H5
      obtain ⟨⟨z0, z1, z2, z3⟩, f0, f1, f2, f3⟩ := box4 h7.bz
      obtain ⟨⟨v0, v1, v2, v3⟩, -⟩ := box4 h7.bv
      have hbn := box_set (box_set (box_set (box_set h7.bz 0 (.slice aB v.1.length kB)) 1 (.int .i64 zf)) 2 (.slice aL v.2.2.1.length kL)) 3 (.int .i64 v.2.2.2)
      have e0 := box_cell hbn 0
      have e1 := box_cell hbn 1
      have e2 := box_cell hbn 2
      have e3 := box_cell hbn 3
      simp only [List.setIfInBounds_toArray, List.set_cons_zero, List.set_cons_succ, List.getElem?_toArray, List.getElem?_cons_zero, List.getElem?_cons_succ] at e0 e1 e2 e3
      have HF := hid (h7.done (N' := N + 4100) H16.out (fun x hx => sizes8 (v := v) HG.out x hx) HG.out.len HG.out.recs (by omega))
      clear hbn
      simp only at HF
      go_wp2_with fail
      generalize (((((w6.setCell ⟨X, 1, none⟩ (.int .i64 zf)).setCell ⟨w.heap.size, 0, none⟩ (.slice aB v.1.length kB)).setCell ⟨w.heap.size, 1, none⟩ (.int .i64 zf)).setCell ⟨w.heap.size, 2, none⟩ (.slice aL v.2.2.1.length kL)).setCell ⟨w.heap.size, 3, none⟩ (.int .i64 v.2.2.2)) = XX at *
      refine bodyPost_ret (v := .agg #[.slice aB v.1.length kB, .int .i64 zf, .slice aL v.2.2.1.length kL, .int .i64 v.2.2.2]) (by simp [results, Try.results47, go_sem, e0, e1, e2, e3]) rfl ?_
      exact HF.out
    · have b0 : (x == 0) = false := by simp; omega
      have b1 : (x == 1) = false := by simp; omega
      have b2 : (x == 2) = false := by simp; omega
      have H16 := hid (goodBs_len HG.out.bs)
      obtain ⟨⟨z0, z1, z2, z3⟩, f0, f1, f2, f3⟩ := box4 h5.bz
      obtain ⟨⟨v0, v1, v2, v3⟩, -⟩ := box4 h5.bv
      have hbn := box_set (box_set (box_set (box_set h5.bz 0 (.slice aB v.1.length kB)) 1 (.int .i64 v.2.1)) 2 (.slice aL v.2.2.1.length kL)) 3 (.int .i64 v.2.2.2)
      have e0 := box_cell hbn 0
      have e1 := box_cell hbn 1
      have e2 := box_cell hbn 2
      have e3 := box_cell hbn 3
      simp only [List.setIfInBounds_toArray, List.set_cons_zero, List.set_cons_succ, List.getElem?_toArray, List.getElem?_cons_zero, List.getElem?_cons_succ] at e0 e1 e2 e3
      have HF := hid (h5.done (N' := N + 4100) H16.out (sizes8 HG.out) HG.out.len HG.out.recs (by omega))
      clear hbn
      go_wp2_with fail
      generalize ((((w5.setCell ⟨w.heap.size, 0, none⟩ (.slice aB v.1.length kB)).setCell ⟨w.heap.size, 1, none⟩ (.int .i64 v.2.1)).setCell ⟨w.heap.size, 2, none⟩ (.slice aL v.2.2.1.length kL)).setCell ⟨w.heap.size, 3, none⟩ (.int .i64 v.2.2.2)) = XX at *
      refine bodyPost_ret (v := .agg #[.slice aB v.1.length kB, .int .i64 v.2.1, .slice aL v.2.2.1.length kL, .int .i64 v.2.2.2]) (by simp [results, Try.results47, go_sem, e0, e1, e2, e3]) rfl ?_
      exact HF.out
end Go.Proofs.Ytlbhfgcpflhccaa
namespace Go.Proofs.Ytlbhfgcpflhccaa
set_option maxRecDepth 100000
open Go Go.ChangeShapes Go.WideShapes Go.ChangeAt Go.RowKit G00541
/-- a drawn volume, as it is read -/
structure VolR (v : Vol) (aB : Option Addr) (aL : Option Addr) (kL : Nat) (w : World) : Prop where
  n16 : v.1.length = 16
  z8 : ∀ x ∈ v.1, x.size ≤ 8
  n40 : v.2.2.1.length ≤ 40
  good : goodL v.2.2.1 = true
  room : v.2.2.1.length ≤ kL
  ss : Ss w.heap.size aB v.1 w
  rs : Rs w.heap.size aL v.2.2.1 w
theorem VolR.on {v : Vol} {aB : Option Addr} {aL : Option Addr} {kL : Nat} {w w' : World} (h : VolR v aB aL kL w) (g : Below w.heap.size w w') : VolR v aB aL kL w' := ⟨h.n16, h.z8, h.n40, h.good, h.room, (h.ss.below g).mono g.size, (h.rs.below g).mono g.size⟩
set_option maxHeartbeats 1500000 in
theorem drawRecordFor_any (len cap : Nat) (a : Option Addr) (w : World) (hK : Code w.heap.size len cap a w) :
    Calls Try.prog 26 #[.slice a len cap] w fun e w' => ∃ o : Op, e = .returned (oval o) ∧ o.data.size ≤ 9 ∧ Below w.heap.size w w' := by
  have g0 := boxB w (.cells #[.int .i64 0, .int .i64 0, .int .i64 0, .string ⟨#[]⟩, .int .i64 0] 35)
  have k0 := heap_last w (.cells #[.int .i64 0, .int .i64 0, .int .i64 0, .string ⟨#[]⟩, .int .i64 0] 35)
  have z0 := heap_size w (.cells #[.int .i64 0, .int .i64 0, .int .i64 0, .string ⟨#[]⟩, .int .i64 0] 35)
  generalize hW0 : w.alloc (.cells #[.int .i64 0, .int .i64 0, .int .i64 0, .string ⟨#[]⟩, .int .i64 0] 35) = w0 at *
  have hK0 : Code w0.heap.size len cap a w0 := (hK.below g0).mono g0.size
  have HC : Hid (Cur w0.heap.size 0 (.slice a len cap) (w0.alloc (.cells #[.slice a len cap, .int .i64 0, .int .u64 0] 63))) := Cur.start _ _ _
  have HK : Hid (Code w0.heap.size len cap a (w0.alloc (.cells #[.slice a len cap, .int .i64 0, .int .u64 0] 63))) := hK0.start _
  have gC := boxB w0 (.cells #[.slice a len cap, .int .i64 0, .int .u64 0] 63)
  have HG0 := hid g0
  have HX : Hid ((w0.alloc (.cells #[.slice a len cap, .int .i64 0, .int .u64 0] 63)).heap[w.heap.size]? = some (.cells #[.int .i64 0, .int .i64 0, .int .i64 0, .string ⟨#[]⟩, .int .i64 0] 35)) := (gC.block _ (kboxV k0)).trans k0
  have HZ0 := hid z0
  have HD := hid (fun w' (h : But w0.heap.size (w0.alloc (.cells #[.slice a len cap, .int .i64 0, .int .u64 0] 63)) w') => But.done h)
  clear hK hK0 g0 k0 z0 gC
  go_enter Try.func26, Try.ntmps26
  go_wp2_with fail
  clear hW0
  generalize w0.alloc (.cells #[.slice a len cap, .int .i64 0, .int .u64 0] 63) = w1 at *
  refine (volOp_any w0.heap.size 0 len cap a _ (by omega) HC.out HK.out).mono ?_
  rintro e w2 ⟨o, rfl, ho9, hC2, hB2⟩
  have hX2 : w2.heap[w.heap.size]? = some (.cells #[.int .i64 0, .int .i64 0, .int .i64 0, .string ⟨#[]⟩, .int .i64 0] 35) := (hB2.block _ (kboxV HX.out) (by have := HZ0.out; omega)).trans HX.out
  obtain ⟨⟨z0, z1, z2, z3, z4⟩, f0, f1, f2, f3, f4⟩ := box5 hX2
  have hbn := box_set (box_set (box_set (box_set (box_set hX2 0 (.int .i64 o.kind)) 1 (.int .i64 o.place)) 2 (.int .i64 o.long)) 3 (.string o.data)) 4 (.int .i64 o.keep)
  have e0 := box_cell hbn 0
  have e1 := box_cell hbn 1
  have e2 := box_cell hbn 2
  have e3 := box_cell hbn 3
  have e4 := box_cell hbn 4
  simp only [List.setIfInBounds_toArray, List.set_cons_zero, List.set_cons_succ, List.getElem?_toArray, List.getElem?_cons_zero, List.getElem?_cons_succ] at e0 e1 e2 e3 e4
  have hb2 := HG0.out.trans ((HD.out _ hB2).mono HG0.out.size)
  have HB := hid (setB (setB (setB (setB (setB hb2 w.heap.size 0 (Nat.le_refl _) (.int .i64 o.kind)) w.heap.size 1 (Nat.le_refl _) (.int .i64 o.place)) w.heap.size 2 (Nat.le_refl _) (.int .i64 o.long)) w.heap.size 3 (Nat.le_refl _) (.string o.data)) w.heap.size 4 (Nat.le_refl _) (.int .i64 o.keep))
  unfold oval
  clear hb2 hbn hX2 hC2 hB2 HC HK HD HX HG0
  go_wp2_with fail
  generalize (((((w2.setCell ⟨w.heap.size, 0, none⟩ (.int .i64 o.kind)).setCell ⟨w.heap.size, 1, none⟩ (.int .i64 o.place)).setCell ⟨w.heap.size, 2, none⟩ (.int .i64 o.long)).setCell ⟨w.heap.size, 3, none⟩ (.string o.data)).setCell ⟨w.heap.size, 4, none⟩ (.int .i64 o.keep)) = XX at *
  refine bodyPost_ret (v := .agg #[.int .i64 o.kind, .int .i64 o.place, .int .i64 o.long, .string o.data, .int .i64 o.keep]) (by simp [results, Try.results26, go_sem, e0, e1, e2, e3, e4]) rfl ⟨o, rfl, ho9, HB.out⟩
set_option maxHeartbeats 2000000 in
theorem drawReadBlocks_any (len cap : Nat) (a : Option Addr) (w : World) (hK : Code w.heap.size len cap a w) :
    Calls Try.prog 21 #[.slice a len cap] w fun e w' => ∃ (v : Vol) (aB : Option Addr) (kB : Nat) (aL : Option Addr) (kL : Nat) (p n : Int), e = .returned (.tuple #[.agg #[.slice aB v.1.length kB, .int .i64 v.2.1, .slice aL v.2.2.1.length kL, .int .i64 v.2.2.2], .int .i64 p, .int .i64 n]) ∧ -1 ≤ p ∧ p ≤ 17 ∧ 0 ≤ n ∧ n ≤ 6 ∧ VolR v aB aL kL w' ∧ Below w.heap.size w w' := by
  have g0 := boxB w (.cells #[.slice none 0 0, .int .i64 0, .slice none 0 0, .int .i64 0] 28)
  have k0 := heap_last w (.cells #[.slice none 0 0, .int .i64 0, .slice none 0 0, .int .i64 0] 28)
  have z0 := heap_size w (.cells #[.slice none 0 0, .int .i64 0, .slice none 0 0, .int .i64 0] 28)
  generalize hW0 : w.alloc (.cells #[.slice none 0 0, .int .i64 0, .slice none 0 0, .int .i64 0] 28) = w0 at *
  have hK0 : Code w0.heap.size len cap a w0 := (hK.below g0).mono g0.size
  have HC : Hid (Cur w0.heap.size 0 (.slice a len cap) (w0.alloc (.cells #[.slice a len cap, .int .i64 0, .int .u64 0] 63))) := Cur.start _ _ _
  have HK : Hid (Code w0.heap.size len cap a (w0.alloc (.cells #[.slice a len cap, .int .i64 0, .int .u64 0] 63))) := hK0.start _
  have gC := boxB w0 (.cells #[.slice a len cap, .int .i64 0, .int .u64 0] 63)
  have zC := heap_size w0 (.cells #[.slice a len cap, .int .i64 0, .int .u64 0] 63)
  have HG0 := hid g0
  have HX : Hid ((w0.alloc (.cells #[.slice a len cap, .int .i64 0, .int .u64 0] 63)).heap[w.heap.size]? = some (.cells #[.slice none 0 0, .int .i64 0, .slice none 0 0, .int .i64 0] 28)) := (gC.block _ (kboxV k0)).trans k0
  have HZ0 := hid z0
  have HD := hid (fun w' (h : But w0.heap.size (w0.alloc (.cells #[.slice a len cap, .int .i64 0, .int .u64 0] 63)) w') => But.done h)
  clear hK hK0 g0 k0 z0 gC
  go_enter Try.func21, Try.ntmps21
  go_wp2_with fail
  clear hW0
  generalize w0.alloc (.cells #[.slice a len cap, .int .i64 0, .int .u64 0] 63) = w1 at *
  refine (volume_any w0.heap.size 0 len cap a _ (by omega) HC.out HK.out).mono ?_
  rintro e w2 ⟨v, aB, kB, aL, kL, lo, hi, rfl, n16, z8, n40, hgl, hroom, hlo, hhi, hov, hC2, hB2⟩
  have HN := hid (And.intro n16 (And.intro z8 (And.intro n40 (And.intro hgl hroom))))
  have HC2 := hid hC2
  have HB2 := hid hB2
  have HOV := hid hov
  have HK2 : Hid (Code w0.heap.size len cap a w2) := HK.out.but hB2 (Nat.le_refl _) (by omega)
  have hs2 := hB2.size
  clear n16 z8 n40 hgl hroom hC2 hB2 hov HC HK
  go_wp2_with fail
  refine (pick_any 18 w0.heap.size _ len cap a _ (by omega) (by omega) (by omega) HC2.out HK2.out).mono ?_
  rintro e w3 ⟨p, rfl, p0, p1, hC3, hB3⟩
  have HC3 := hid hC3
  have HB3 := hid (HB2.out.trans hB3)
  have HOV : Hid (OwnV lo hi aB v.1 aL v.2.2.1 w3) := HOV.out.same hB3.size (fun k h1 h2 => hB3.block k (by omega) (by omega))
  have HK3 : Hid (Code w0.heap.size len cap a w3) := HK2.out.but hB3 (Nat.le_refl _) (by omega)
  have hs3 := hB3.size
  clear hC3 hB3 HC2 HB2 HK2
  go_wp2_with fail
  refine (pick_any 6 w0.heap.size _ len cap a _ (by omega) (by omega) (by omega) HC3.out HK3.out).mono ?_
  rintro e w4 ⟨q, rfl, q0, q1, hC4, hB4⟩
  have hB4' := HB3.out.trans hB4
  have hov4 : OwnV lo hi aB v.1 aL v.2.2.1 w4 := HOV.out.same hB4.size (fun k h1 h2 => hB4.block k (by omega) (by omega))
  have hs4 := hB4.size
  have hX4 : w4.heap[w.heap.size]? = some (.cells #[.slice none 0 0, .int .i64 0, .slice none 0 0, .int .i64 0] 28) := (hB4'.block _ (kboxV HX.out) (by have := HZ0.out; omega)).trans HX.out
  obtain ⟨⟨z0, z1, z2, z3⟩, f0, f1, f2, f3⟩ := box4 hX4
  have hbn := box_set (box_set (box_set (box_set hX4 0 (.slice aB v.1.length kB)) 1 (.int .i64 v.2.1)) 2 (.slice aL v.2.2.1.length kL)) 3 (.int .i64 v.2.2.2)
  have e0 := box_cell hbn 0
  have e1 := box_cell hbn 1
  have e2 := box_cell hbn 2
  have e3 := box_cell hbn 3
  simp only [List.setIfInBounds_toArray, List.set_cons_zero, List.set_cons_succ, List.getElem?_toArray, List.getElem?_cons_zero, List.getElem?_cons_succ] at e0 e1 e2 e3
  have hb4 := HG0.out.trans ((HD.out _ hB4').mono HG0.out.size)
  have HB := hid (setB (setB (setB (setB hb4 w.heap.size 0 (Nat.le_refl _) (.slice aB v.1.length kB)) w.heap.size 1 (Nat.le_refl _) (.int .i64 v.2.1)) w.heap.size 2 (Nat.le_refl _) (.slice aL v.2.2.1.length kL)) w.heap.size 3 (Nat.le_refl _) (.int .i64 v.2.2.2))
  have HV : Hid (VolR v aB aL kL ((((w4.setCell ⟨w.heap.size, 0, none⟩ (.slice aB v.1.length kB)).setCell ⟨w.heap.size, 1, none⟩ (.int .i64 v.2.1)).setCell ⟨w.heap.size, 2, none⟩ (.slice aL v.2.2.1.length kL)).setCell ⟨w.heap.size, 3, none⟩ (.int .i64 v.2.2.2))) := by
    have hk : ∀ k, k ≠ w.heap.size → ((((w4.setCell ⟨w.heap.size, 0, none⟩ (.slice aB v.1.length kB)).setCell ⟨w.heap.size, 1, none⟩ (.int .i64 v.2.1)).setCell ⟨w.heap.size, 2, none⟩ (.slice aL v.2.2.1.length kL)).setCell ⟨w.heap.size, 3, none⟩ (.int .i64 v.2.2.2)).heap[k]? = w4.heap[k]? := fun k h1 => by
      rw [keepB _ _ _ _ _ h1, keepB _ _ _ _ _ h1, keepB _ _ _ _ _ h1, keepB _ _ _ _ _ h1]
    have hz : ((((w4.setCell ⟨w.heap.size, 0, none⟩ (.slice aB v.1.length kB)).setCell ⟨w.heap.size, 1, none⟩ (.int .i64 v.2.1)).setCell ⟨w.heap.size, 2, none⟩ (.slice aL v.2.2.1.length kL)).setCell ⟨w.heap.size, 3, none⟩ (.int .i64 v.2.2.2)).heap.size = w4.heap.size := by simp [World.setCell]
    have ho := hov4.same (w' := (((w4.setCell ⟨w.heap.size, 0, none⟩ (.slice aB v.1.length kB)).setCell ⟨w.heap.size, 1, none⟩ (.int .i64 v.2.1)).setCell ⟨w.heap.size, 2, none⟩ (.slice aL v.2.2.1.length kL)).setCell ⟨w.heap.size, 3, none⟩ (.int .i64 v.2.2.2)) (by omega) (fun k h1 h2 => hk k (by have := HZ0.out; omega))
    obtain ⟨n16, z8, n40, hgl, hroom⟩ := HN.out
    exact ⟨n16, z8, n40, hgl, hroom, ho.read.1, ho.read.2⟩
  clear hb4 hbn hX4 hC4 hB4 hB4' hov4 HOV HC3 HB3 HK3 HD HX HG0
  go_wp2_with fail
  generalize ((((w4.setCell ⟨w.heap.size, 0, none⟩ (.slice aB v.1.length kB)).setCell ⟨w.heap.size, 1, none⟩ (.int .i64 v.2.1)).setCell ⟨w.heap.size, 2, none⟩ (.slice aL v.2.2.1.length kL)).setCell ⟨w.heap.size, 3, none⟩ (.int .i64 v.2.2.2)) = XX at *
  refine bodyPost_ret (v := .tuple #[.agg #[.slice aB v.1.length kB, .int .i64 v.2.1, .slice aL v.2.2.1.length kL, .int .i64 v.2.2.2], .int .i64 (p - 1), .int .i64 q]) (by simp [results, Try.results21, go_sem, e0, e1, e2, e3]) rfl ⟨v, aB, kB, aL, kL, p - 1, q, rfl, by omega, by omega, q0, by omega, HV.out, HB.out⟩
end Go.Proofs.Ytlbhfgcpflhccaa
namespace Go.Proofs.Ytlbhfgcpflhccaa
set_option maxRecDepth 100000
open Go Go.ChangeShapes Go.WideShapes Go.ChangeAt Go.RowKit G00541
set_option maxHeartbeats 2500000 in
theorem drawDoVolume_any (len cap : Nat) (a : Option Addr) (w : World) (hK : Code w.heap.size len cap a w) :
    Calls Try.prog 18 #[.slice a len cap] w fun e w' => ∃ (v : Vol) (aB : Option Addr) (kB : Nat) (aL : Option Addr) (kL : Nat) (o : Op), e = .returned (.tuple #[.agg #[.slice aB v.1.length kB, .int .i64 v.2.1, .slice aL v.2.2.1.length kL, .int .i64 v.2.2.2], oval o]) ∧ o.data.size ≤ 9 ∧ VolR v aB aL kL w' ∧ Below w.heap.size w w' := by
  have g0 := boxB w (.cells #[.slice none 0 0, .int .i64 0, .slice none 0 0, .int .i64 0] 28)
  have k0 := heap_last w (.cells #[.slice none 0 0, .int .i64 0, .slice none 0 0, .int .i64 0] 28)
  have z0 := heap_size w (.cells #[.slice none 0 0, .int .i64 0, .slice none 0 0, .int .i64 0] 28)
  have g1 := boxB (w.alloc (.cells #[.slice none 0 0, .int .i64 0, .slice none 0 0, .int .i64 0] 28)) (.cells #[.int .i64 0, .int .i64 0, .int .i64 0, .string ⟨#[]⟩, .int .i64 0] 35)
  have k1 := heap_last (w.alloc (.cells #[.slice none 0 0, .int .i64 0, .slice none 0 0, .int .i64 0] 28)) (.cells #[.int .i64 0, .int .i64 0, .int .i64 0, .string ⟨#[]⟩, .int .i64 0] 35)
  have z1 := heap_size (w.alloc (.cells #[.slice none 0 0, .int .i64 0, .slice none 0 0, .int .i64 0] 28)) (.cells #[.int .i64 0, .int .i64 0, .int .i64 0, .string ⟨#[]⟩, .int .i64 0] 35)
  have k01 := (g1.block _ (kboxV k0)).trans k0
  rw [z0] at k1 z1
  have g01 := g0.trans (g1.mono g0.size)
  clear g0 g1 k0 z0
  generalize hW0 : (w.alloc (.cells #[.slice none 0 0, .int .i64 0, .slice none 0 0, .int .i64 0] 28)).alloc (.cells #[.int .i64 0, .int .i64 0, .int .i64 0, .string ⟨#[]⟩, .int .i64 0] 35) = w0 at *
  have hK0 : Code w0.heap.size len cap a w0 := (hK.below g01).mono g01.size
  have HC : Hid (Cur w0.heap.size 0 (.slice a len cap) (w0.alloc (.cells #[.slice a len cap, .int .i64 0, .int .u64 0] 63))) := Cur.start _ _ _
  have HK : Hid (Code w0.heap.size len cap a (w0.alloc (.cells #[.slice a len cap, .int .i64 0, .int .u64 0] 63))) := hK0.start _
  have gC := boxB w0 (.cells #[.slice a len cap, .int .i64 0, .int .u64 0] 63)
  have zC := heap_size w0 (.cells #[.slice a len cap, .int .i64 0, .int .u64 0] 63)
  have HG0 := hid g01
  have HX : Hid ((w0.alloc (.cells #[.slice a len cap, .int .i64 0, .int .u64 0] 63)).heap[w.heap.size]? = some (.cells #[.slice none 0 0, .int .i64 0, .slice none 0 0, .int .i64 0] 28)) := (gC.block _ (kboxV k01)).trans k01
  have HY : Hid ((w0.alloc (.cells #[.slice a len cap, .int .i64 0, .int .u64 0] 63)).heap[w.heap.size + 1]? = some (.cells #[.int .i64 0, .int .i64 0, .int .i64 0, .string ⟨#[]⟩, .int .i64 0] 35)) := (gC.block _ (kboxV k1)).trans k1
  have HZ0 := hid z1
  have HD := hid (fun w' (h : But w0.heap.size (w0.alloc (.cells #[.slice a len cap, .int .i64 0, .int .u64 0] 63)) w') => But.done h)
  clear hK hK0 g01 k01 k1 z1 gC
  go_enter Try.func18, Try.ntmps18
  go_wp2_with fail
  clear hW0
  generalize w0.alloc (.cells #[.slice a len cap, .int .i64 0, .int .u64 0] 63) = w1 at *
  refine (volume_any w0.heap.size 0 len cap a _ (by omega) HC.out HK.out).mono ?_
  rintro e w2 ⟨v, aB, kB, aL, kL, lo, hi, rfl, n16, z8, n40, hgl, hroom, hlo, hhi, hov, hC2, hB2⟩
  have HN := hid (And.intro n16 (And.intro z8 (And.intro n40 (And.intro hgl hroom))))
  have HC2 := hid hC2
  have HB2 := hid hB2
  have HOV := hid hov
  have HK2 : Hid (Code w0.heap.size len cap a w2) := HK.out.but hB2 (Nat.le_refl _) (by omega)
  have hs2 := hB2.size
  clear n16 z8 n40 hgl hroom hC2 hB2 hov HC HK
  go_wp2_with fail
  refine (volOp_any w0.heap.size _ len cap a _ (by omega) HC2.out HK2.out).mono ?_
  rintro e w3 ⟨o, rfl, ho9, hC3, hB3⟩
  have hB3' := HB2.out.trans hB3
  have hov3 : OwnV lo hi aB v.1 aL v.2.2.1 w3 := HOV.out.same hB3.size (fun k h1 h2 => hB3.block k (by omega) (by omega))
  have hs3 := hB3.size
  have hz0 := HZ0.out
  have hX3 : w3.heap[w.heap.size]? = some (.cells #[.slice none 0 0, .int .i64 0, .slice none 0 0, .int .i64 0] 28) := (hB3'.block _ (kboxV HX.out) (by omega)).trans HX.out
  have hY3 : w3.heap[w.heap.size + 1]? = some (.cells #[.int .i64 0, .int .i64 0, .int .i64 0, .string ⟨#[]⟩, .int .i64 0] 35) := (hB3'.block _ (kboxV HY.out) (by omega)).trans HY.out
  obtain ⟨⟨z0, z1, z2, z3⟩, f0, f1, f2, f3⟩ := box4 hX3
  obtain ⟨⟨y0, y1, y2, y3, y4⟩, j0, j1, j2, j3, j4⟩ := box5 hY3
  have hbn := box_set (box_set (box_set (box_set hX3 0 (.slice aB v.1.length kB)) 1 (.int .i64 v.2.1)) 2 (.slice aL v.2.2.1.length kL)) 3 (.int .i64 v.2.2.2)
  have hbn' : (((((((((w3.setCell ⟨w.heap.size, 0, none⟩ (.slice aB v.1.length kB)).setCell ⟨w.heap.size, 1, none⟩ (.int .i64 v.2.1)).setCell ⟨w.heap.size, 2, none⟩ (.slice aL v.2.2.1.length kL)).setCell ⟨w.heap.size, 3, none⟩ (.int .i64 v.2.2.2)).setCell ⟨w.heap.size + 1, 0, none⟩ (.int .i64 o.kind)).setCell ⟨w.heap.size + 1, 1, none⟩ (.int .i64 o.place)).setCell ⟨w.heap.size + 1, 2, none⟩ (.int .i64 o.long)).setCell ⟨w.heap.size + 1, 3, none⟩ (.string o.data)).setCell ⟨w.heap.size + 1, 4, none⟩ (.int .i64 o.keep)).heap[w.heap.size]? = some (.cells #[.slice aB v.1.length kB, .int .i64 v.2.1, .slice aL v.2.2.1.length kL, .int .i64 v.2.2.2] 28) := by
    rw [keepB _ _ _ _ _ (by omega), keepB _ _ _ _ _ (by omega), keepB _ _ _ _ _ (by omega), keepB _ _ _ _ _ (by omega), keepB _ _ _ _ _ (by omega)]
    simpa using hbn
  have hy0 : ((((w3.setCell ⟨w.heap.size, 0, none⟩ (.slice aB v.1.length kB)).setCell ⟨w.heap.size, 1, none⟩ (.int .i64 v.2.1)).setCell ⟨w.heap.size, 2, none⟩ (.slice aL v.2.2.1.length kL)).setCell ⟨w.heap.size, 3, none⟩ (.int .i64 v.2.2.2)).heap[w.heap.size + 1]? = some (.cells #[.int .i64 0, .int .i64 0, .int .i64 0, .string ⟨#[]⟩, .int .i64 0] 35) := by
    rw [keepB _ _ _ _ _ (by omega), keepB _ _ _ _ _ (by omega), keepB _ _ _ _ _ (by omega), keepB _ _ _ _ _ (by omega)]
    exact hY3
  have hyn := box_set (box_set (box_set (box_set (box_set hy0 0 (.int .i64 o.kind)) 1 (.int .i64 o.place)) 2 (.int .i64 o.long)) 3 (.string o.data)) 4 (.int .i64 o.keep)
  obtain ⟨⟨e0, e1, e2, e3⟩, -⟩ := box4 hbn'
  have i0 := box_cell hyn 0
  have i1 := box_cell hyn 1
  have i2 := box_cell hyn 2
  have i3 := box_cell hyn 3
  have i4 := box_cell hyn 4
  simp only [List.setIfInBounds_toArray, List.set_cons_zero, List.set_cons_succ, List.getElem?_toArray, List.getElem?_cons_zero, List.getElem?_cons_succ] at i0 i1 i2 i3 i4
  have hb3 := HG0.out.trans ((HD.out _ hB3').mono HG0.out.size)
  have hb4 := setB (setB (setB (setB hb3 w.heap.size 0 (Nat.le_refl _) (.slice aB v.1.length kB)) w.heap.size 1 (Nat.le_refl _) (.int .i64 v.2.1)) w.heap.size 2 (Nat.le_refl _) (.slice aL v.2.2.1.length kL)) w.heap.size 3 (Nat.le_refl _) (.int .i64 v.2.2.2)
  have HB := hid (setB (setB (setB (setB (setB hb4 (w.heap.size + 1) 0 (by omega) (.int .i64 o.kind)) (w.heap.size + 1) 1 (by omega) (.int .i64 o.place)) (w.heap.size + 1) 2 (by omega) (.int .i64 o.long)) (w.heap.size + 1) 3 (by omega) (.string o.data)) (w.heap.size + 1) 4 (by omega) (.int .i64 o.keep))
  have HV : Hid (VolR v aB aL kL (((((((((w3.setCell ⟨w.heap.size, 0, none⟩ (.slice aB v.1.length kB)).setCell ⟨w.heap.size, 1, none⟩ (.int .i64 v.2.1)).setCell ⟨w.heap.size, 2, none⟩ (.slice aL v.2.2.1.length kL)).setCell ⟨w.heap.size, 3, none⟩ (.int .i64 v.2.2.2)).setCell ⟨w.heap.size + 1, 0, none⟩ (.int .i64 o.kind)).setCell ⟨w.heap.size + 1, 1, none⟩ (.int .i64 o.place)).setCell ⟨w.heap.size + 1, 2, none⟩ (.int .i64 o.long)).setCell ⟨w.heap.size + 1, 3, none⟩ (.string o.data)).setCell ⟨w.heap.size + 1, 4, none⟩ (.int .i64 o.keep))) := by
    have hk : ∀ k, w.heap.size + 1 < k → (((((((((w3.setCell ⟨w.heap.size, 0, none⟩ (.slice aB v.1.length kB)).setCell ⟨w.heap.size, 1, none⟩ (.int .i64 v.2.1)).setCell ⟨w.heap.size, 2, none⟩ (.slice aL v.2.2.1.length kL)).setCell ⟨w.heap.size, 3, none⟩ (.int .i64 v.2.2.2)).setCell ⟨w.heap.size + 1, 0, none⟩ (.int .i64 o.kind)).setCell ⟨w.heap.size + 1, 1, none⟩ (.int .i64 o.place)).setCell ⟨w.heap.size + 1, 2, none⟩ (.int .i64 o.long)).setCell ⟨w.heap.size + 1, 3, none⟩ (.string o.data)).setCell ⟨w.heap.size + 1, 4, none⟩ (.int .i64 o.keep)).heap[k]? = w3.heap[k]? := fun k h1 => by
      rw [keepB _ _ _ _ _ (by omega), keepB _ _ _ _ _ (by omega), keepB _ _ _ _ _ (by omega), keepB _ _ _ _ _ (by omega), keepB _ _ _ _ _ (by omega), keepB _ _ _ _ _ (by omega), keepB _ _ _ _ _ (by omega), keepB _ _ _ _ _ (by omega), keepB _ _ _ _ _ (by omega)]
    have hz : (((((((((w3.setCell ⟨w.heap.size, 0, none⟩ (.slice aB v.1.length kB)).setCell ⟨w.heap.size, 1, none⟩ (.int .i64 v.2.1)).setCell ⟨w.heap.size, 2, none⟩ (.slice aL v.2.2.1.length kL)).setCell ⟨w.heap.size, 3, none⟩ (.int .i64 v.2.2.2)).setCell ⟨w.heap.size + 1, 0, none⟩ (.int .i64 o.kind)).setCell ⟨w.heap.size + 1, 1, none⟩ (.int .i64 o.place)).setCell ⟨w.heap.size + 1, 2, none⟩ (.int .i64 o.long)).setCell ⟨w.heap.size + 1, 3, none⟩ (.string o.data)).setCell ⟨w.heap.size + 1, 4, none⟩ (.int .i64 o.keep)).heap.size = w3.heap.size := by simp [World.setCell]
    have ho := hov3.same (w' := ((((((((w3.setCell ⟨w.heap.size, 0, none⟩ (.slice aB v.1.length kB)).setCell ⟨w.heap.size, 1, none⟩ (.int .i64 v.2.1)).setCell ⟨w.heap.size, 2, none⟩ (.slice aL v.2.2.1.length kL)).setCell ⟨w.heap.size, 3, none⟩ (.int .i64 v.2.2.2)).setCell ⟨w.heap.size + 1, 0, none⟩ (.int .i64 o.kind)).setCell ⟨w.heap.size + 1, 1, none⟩ (.int .i64 o.place)).setCell ⟨w.heap.size + 1, 2, none⟩ (.int .i64 o.long)).setCell ⟨w.heap.size + 1, 3, none⟩ (.string o.data)).setCell ⟨w.heap.size + 1, 4, none⟩ (.int .i64 o.keep)) (by omega) (fun k h1 h2 => hk k (by omega))
    obtain ⟨n16, z8, n40, hgl, hroom⟩ := HN.out
    exact ⟨n16, z8, n40, hgl, hroom, ho.read.1, ho.read.2⟩
  unfold oval
  clear hb3 hb4 hbn hbn' hy0 hyn hX3 hY3 hC3 hB3 hB3' hov3 HOV HC2 HB2 HK2 HD HX HY HG0 hz0
  go_wp2_with fail
  generalize (((((((((w3.setCell ⟨w.heap.size, 0, none⟩ (.slice aB v.1.length kB)).setCell ⟨w.heap.size, 1, none⟩ (.int .i64 v.2.1)).setCell ⟨w.heap.size, 2, none⟩ (.slice aL v.2.2.1.length kL)).setCell ⟨w.heap.size, 3, none⟩ (.int .i64 v.2.2.2)).setCell ⟨w.heap.size + 1, 0, none⟩ (.int .i64 o.kind)).setCell ⟨w.heap.size + 1, 1, none⟩ (.int .i64 o.place)).setCell ⟨w.heap.size + 1, 2, none⟩ (.int .i64 o.long)).setCell ⟨w.heap.size + 1, 3, none⟩ (.string o.data)).setCell ⟨w.heap.size + 1, 4, none⟩ (.int .i64 o.keep)) = XX at *
  refine bodyPost_ret (v := .tuple #[.agg #[.slice aB v.1.length kB, .int .i64 v.2.1, .slice aL v.2.2.1.length kL, .int .i64 v.2.2.2], .agg #[.int .i64 o.kind, .int .i64 o.place, .int .i64 o.long, .string o.data, .int .i64 o.keep]]) (by simp [results, Try.results18, go_sem, e0, e1, e2, e3, i0, i1, i2, i3, i4]) rfl ⟨v, aB, kB, aL, kL, o, rfl, ho9, HV.out, HB.out⟩
end Go.Proofs.Ytlbhfgcpflhccaa
namespace Go.Proofs.Ytlbhfgcpflhccaa
set_option maxRecDepth 100000
open Go Go.ChangeShapes Go.WideShapes Go.ChangeAt Go.RowKit G00541
set_option maxHeartbeats 1000000 in
theorem sameTexts_same (a1 a2 : Option Addr) (c1 c2 : Nat) (l : List ByteArray) (w : World) (hn : l.length ≤ 1048576) (h1 : Ss w.heap.size a1 l w) (h2 : Ss w.heap.size a2 l w) :
    Calls Try.prog 14 #[.slice a1 l.length c1, .slice a2 l.length c2] w fun e w' => e = .returned (.bool true) ∧ Below w.heap.size w w' := by
  have H1 : Hid (Ss w.heap.size a1 l w) := h1
  have H2 : Hid (Ss w.heap.size a2 l w) := h2
  clear h1 h2
  go_enter Try.func14, Try.ntmps14
  go_wp2
  go_loopw [13] (fun i wr => ∃ k : Nat, k ≤ l.length ∧ i = .int .i64 k ∧ Below w.heap.size w wr) (fun i _ => l.length - (intOf i).toNat)
  case atStart => exact ⟨0, Nat.zero_le _, rfl, Below.refl _ _⟩
  case round =>
    obtain ⟨k, hk, rfl, hbel⟩ := hrel
    have HBEL : Hid (Below w.heap.size w wr) := hbel
    by_cases hlt : k < l.length
    · obtain ⟨b1, o1, rfl, hb1, hc1⟩ := H1.out.cell (by omega)
      obtain ⟨b2, o2, rfl, hb2, hc2⟩ := H2.out.cell (by omega)
      have x0 := (hbel.cell (p := ⟨b1, o1 + k, none⟩) hb1).trans (hc1 k hlt)
      have y0 := (hbel.cell (p := ⟨b2, o2 + k, none⟩) hb2).trans (hc2 k hlt)
      clear hc1 hc2 hbel
      generalize l[k] = n at *
      go_wp2
      go_region
      all_goals
        go_wp2
        go_roundw
        · exact ⟨k + 1, by omega, by go_num, HBEL.out.drew⟩
        · simp [intOf]; omega
    · clear hbel
      go_wp2
      go_ret
      exact ⟨rfl, HBEL.out⟩
set_option maxHeartbeats 2000000 in
theorem sameRecords_same (a1 a2 : Option Addr) (c1 c2 : Nat) (l : List Rc) (w : World) (hn : l.length ≤ 1048576) (h1 : Rs w.heap.size a1 l w) (h2 : Rs w.heap.size a2 l w) :
    Calls Try.prog 15 #[.slice a1 l.length c1, .slice a2 l.length c2] w fun e w' => e = .returned (.bool true) ∧ Below w.heap.size w w' := by
  have H1 : Hid (Rs w.heap.size a1 l w) := h1
  have H2 : Hid (Rs w.heap.size a2 l w) := h2
  clear h1 h2
  go_enter Try.func15, Try.ntmps15
  go_wp2
  go_loopw [13] (fun i wr => ∃ k : Nat, k ≤ l.length ∧ i = .int .i64 k ∧ Below w.heap.size w wr) (fun i _ => l.length - (intOf i).toNat)
  case atStart => exact ⟨0, Nat.zero_le _, rfl, Below.refl _ _⟩
  case round =>
    obtain ⟨k, hk, rfl, hbel⟩ := hrel
    have HBEL : Hid (Below w.heap.size w wr) := hbel
    by_cases hlt : k < l.length
    · obtain ⟨b1, o1, rfl, hb1, hc1⟩ := H1.out.cell (by omega)
      obtain ⟨b2, o2, rfl, hb2, hc2⟩ := H2.out.cell (by omega)
      obtain ⟨x0, x1, x2, x3⟩ := hc1 k hlt
      obtain ⟨y0, y1, y2, y3⟩ := hc2 k hlt
      have hb1' : ∀ o, wr.cell? ⟨b1, o, none⟩ = w.cell? ⟨b1, o, none⟩ := fun o => hbel.cell (p := ⟨b1, o, none⟩) hb1
      have hb2' : ∀ o, wr.cell? ⟨b2, o, none⟩ = w.cell? ⟨b2, o, none⟩ := fun o => hbel.cell (p := ⟨b2, o, none⟩) hb2
      rw [← hb1'] at x0 x1 x2 x3
      rw [← hb2'] at y0 y1 y2 y3
      clear hc1 hc2 hb1' hb2' hbel
      generalize l[k].kind = rk at *
      generalize l[k].place = rp at *
      generalize l[k].long = rn at *
      generalize str l[k].data = rd at *
      go_wp2
      go_region
      all_goals
        go_wp2
        go_roundw
        · exact ⟨k + 1, by omega, by go_num, HBEL.out.drew⟩
        · simp [intOf]; omega
    · clear hbel
      go_wp2
      go_ret
      exact ⟨rfl, HBEL.out⟩
end Go.Proofs.Ytlbhfgcpflhccaa
namespace Go.Proofs.Ytlbhfgcpflhccaa
set_option maxRecDepth 100000
open Go.ChangeShapes Go.WideShapes Go.ChangeAt Go.RowKit G00541
set_option maxHeartbeats 2000000 in
theorem idoV_bad (aB aL : Option Addr) (kB kL : Nat) (B : List ByteArray) (F : Int) (L : List Rc) (s : Int) (k p n m : Int) (D : ByteArray) (w : World) (hf : B.length ≤ 1048576 ∧ L.length ≤ 1048576) (hB : Ss w.heap.size aB B w) (hL : Rs w.heap.size aL L w)
    (hg : goodV B F L s = false) : Calls Try.prog 16 #[.agg #[.slice aB B.length kB, .int .i64 F, .slice aL L.length kL, .int .i64 s], .agg #[.int .i64 k, .int .i64 p, .int .i64 n, .string D, .int .i64 m]] w fun e w' => DOut none w e w' := by
  have HK := hid (DK.start w #[.slice aB B.length kB, .int .i64 F, .slice aL L.length kL, .int .i64 s] #[.int .i64 k, .int .i64 p, .int .i64 n, .string D, .int .i64 m] #[.slice none 0 0, .int .i64 0, .slice none 0 0, .int .i64 0])
  have HG : Hid (∀ v, Below w.heap.size w v → Calls Try.prog 13 #[.agg #[.slice aB B.length kB, .int .i64 F, .slice aL L.length kL, .int .i64 s]] v fun e w' => e = .returned (.bool false) ∧ Below v.heap.size v w') := fun v g => by
    have := igoodV_any aB aL kB kL B F L s v hf ((hB.below g).mono g.size) ((hL.below g).mono g.size)
    rw [hg] at this
    exact this
  clear hB hL hf hg
  generalize hW : (((w.alloc (.cells #[.slice aB B.length kB, .int .i64 F, .slice aL L.length kL, .int .i64 s] 28)).alloc (.cells #[.int .i64 k, .int .i64 p, .int .i64 n, .string D, .int .i64 m] 35)).alloc (.cells #[.slice none 0 0, .int .i64 0, .slice none 0 0, .int .i64 0] 28)) = W at *
  obtain ⟨x0, x1, x2, x3⟩ := HK.out.vol
  go_enter Try.func16, Try.ntmps16
  go_wp2_with fail
  clear hW
  refine (HG.out _ HK.out.below).mono ?_
  rintro e w2 ⟨rfl, b2⟩
  have HK2 := hid (HK.out.on b2)
  clear b2 HK HG x0 x1 x2 x3
  have hKz := HK2.out.fill (.slice none 0 0) (.int .i64 0) (.slice none 0 0) (.int .i64 0)
  have ez0 : ((((w2.setCell ⟨w.heap.size + 1 + 1, 0, none⟩ (.slice none 0 0)).setCell ⟨w.heap.size + 1 + 1, 1, none⟩ (.int .i64 0)).setCell ⟨w.heap.size + 1 + 1, 2, none⟩ (.slice none 0 0)).setCell ⟨w.heap.size + 1 + 1, 3, none⟩ (.int .i64 0)).cell? ⟨w.heap.size + 1 + 1, 0, none⟩ = some (.slice none 0 0) := box_cell hKz.z 0
  have ez1 : ((((w2.setCell ⟨w.heap.size + 1 + 1, 0, none⟩ (.slice none 0 0)).setCell ⟨w.heap.size + 1 + 1, 1, none⟩ (.int .i64 0)).setCell ⟨w.heap.size + 1 + 1, 2, none⟩ (.slice none 0 0)).setCell ⟨w.heap.size + 1 + 1, 3, none⟩ (.int .i64 0)).cell? ⟨w.heap.size + 1 + 1, 1, none⟩ = some (.int .i64 0) := box_cell hKz.z 1
  have ez2 : ((((w2.setCell ⟨w.heap.size + 1 + 1, 0, none⟩ (.slice none 0 0)).setCell ⟨w.heap.size + 1 + 1, 1, none⟩ (.int .i64 0)).setCell ⟨w.heap.size + 1 + 1, 2, none⟩ (.slice none 0 0)).setCell ⟨w.heap.size + 1 + 1, 3, none⟩ (.int .i64 0)).cell? ⟨w.heap.size + 1 + 1, 2, none⟩ = some (.slice none 0 0) := box_cell hKz.z 2
  have ez3 : ((((w2.setCell ⟨w.heap.size + 1 + 1, 0, none⟩ (.slice none 0 0)).setCell ⟨w.heap.size + 1 + 1, 1, none⟩ (.int .i64 0)).setCell ⟨w.heap.size + 1 + 1, 2, none⟩ (.slice none 0 0)).setCell ⟨w.heap.size + 1 + 1, 3, none⟩ (.int .i64 0)).cell? ⟨w.heap.size + 1 + 1, 3, none⟩ = some (.int .i64 0) := box_cell hKz.z 3
  have HBz := hid hKz.below
  obtain ⟨⟨z0, z1, z2, z3⟩, f0, f1, f2, f3⟩ := HK2.out.cells
  clear hKz
  go_wp2_with fail
  generalize ((((w2.setCell ⟨w.heap.size + 1 + 1, 0, none⟩ (.slice none 0 0)).setCell ⟨w.heap.size + 1 + 1, 1, none⟩ (.int .i64 0)).setCell ⟨w.heap.size + 1 + 1, 2, none⟩ (.slice none 0 0)).setCell ⟨w.heap.size + 1 + 1, 3, none⟩ (.int .i64 0)) = XX at *
  refine bodyPost_ret (v := .tuple #[.agg #[.slice none 0 0, .int .i64 0, .slice none 0 0, .int .i64 0], .bool false]) (by simp [results, Try.results16, go_sem, ez0, ez1, ez2, ez3]) rfl ?_
  exact ⟨rfl, HBz.out⟩
theorem doV_small {B : List ByteArray} {F : Int} {L : List Rc} {s : Int} {o : Op} {v : Vol} (hg : GoodV B F L s) (h : doV B F L s o = some v) : v.1.length = 16 ∧ v.2.2.1.length ≤ 41 := by
  have h16 := goodBs_len hg.bs
  have h40 := hg.len
  unfold doV at h
  split at h
  · unfold recDo at h
    split at h
    · injection h with h; subst h; exact ⟨h16, by simp; omega⟩
    · cases h
  · split at h
    · split at h
      · injection h with h; subst h; exact ⟨h16, by simp only; omega⟩
      · split at h
        · unfold crashDo at h
          split at h
          · injection h with h; subst h; exact ⟨h16, by simp only [List.length_take]; omega⟩
          · cases h
        · split at h
          · unfold foldDo at h
            injection h with h; subst h; exact ⟨by simp only [doL_len]; exact h16, by simp only [List.length_drop]; omega⟩
          · cases h
    · cases h
theorem goDo_small {B : List ByteArray} {F : Int} {L : List Rc} {s : Int} {o : Op} {v : Vol} (h : goDo B F L s o = some v) : v.1.length ≤ 9999 ∧ v.2.2.1.length ≤ 9999 := by
  unfold goDo at h
  split at h
  · rename_i hg
    have := doV_small (goodV_iff.1 hg) h
    omega
  · cases h
theorem sdo_any (aB aL : Option Addr) (kB kL : Nat) (B : List ByteArray) (F : Int) (L : List Rc) (s : Int) (k p n m : Int) (D : ByteArray) (w : World) (hf : B.length ≤ 1048576 ∧ L.length ≤ 1048576) (hB : Ss w.heap.size aB B w) (hL : Rs w.heap.size aL L w) :
    Calls Try.prog 19 #[.agg #[.slice aB B.length kB, .int .i64 F, .slice aL L.length kL, .int .i64 s], .agg #[.int .i64 k, .int .i64 p, .int .i64 n, .string D, .int .i64 m]] w fun e w' => DOut (goDo B F L s ⟨k, p, n, D, m⟩) w e w' := by
  cases hg : goodV B F L s
  · rw [goDo_no hg]
    exact sdoV_bad aB aL kB kL B F L s k p n m D w hf hB hL hg
  · rw [goDo_yes hg]
    cases hd : doV B F L s ⟨k, p, n, D, m⟩ with
    | none => exact sdoV_none aB aL kB kL B F L s k p n m D w hf hB hL hg hd
    | some v =>
      obtain ⟨B9, v1, L9, v3⟩ := v
      have h9 := doV_small (goodV_iff.1 hg) hd
      simp only at h9
      exact sdoV_some aB aL kB kL B F L s k p n m D B9 v1 L9 v3 w hf hB hL hg hd ⟨by omega, by omega⟩
theorem ido_any (aB aL : Option Addr) (kB kL : Nat) (B : List ByteArray) (F : Int) (L : List Rc) (s : Int) (k p n m : Int) (D : ByteArray) (w : World) (hf : B.length ≤ 1048576 ∧ L.length ≤ 1048576) (hk : L.length ≤ kL) (hB : Ss w.heap.size aB B w) (hL : Rs w.heap.size aL L w) :
    Calls Try.prog 16 #[.agg #[.slice aB B.length kB, .int .i64 F, .slice aL L.length kL, .int .i64 s], .agg #[.int .i64 k, .int .i64 p, .int .i64 n, .string D, .int .i64 m]] w fun e w' => DOut (goDo B F L s ⟨k, p, n, D, m⟩) w e w' := by
  cases hg : goodV B F L s
  · rw [goDo_no hg]
    exact idoV_bad aB aL kB kL B F L s k p n m D w hf hB hL hg
  · rw [goDo_yes hg]
    exact idoV_any aB aL kB kL B F L s k p n m D w hf hk hB hL (goodV_iff.1 hg)
/-- what is told: a volume and whether it is one -/
def volOf (o : Option Vol) : Vol := o.getD ([], 0, [], 0)
theorem DOut.tells {o : Option Vol} {w : World} {e : Ending} {w' : World} (h : DOut o w e w') : ∃ b c d f, e = .returned (.tuple #[.agg #[.slice b (volOf o).1.length c, .int .i64 (volOf o).2.1, .slice d (volOf o).2.2.1.length f, .int .i64 (volOf o).2.2.2], .bool o.isSome]) ∧ OwnV w.heap.size w'.heap.size b (volOf o).1 d (volOf o).2.2.1 w' ∧ Below w.heap.size w w' := by
  cases o with
  | none => obtain ⟨h1, h2⟩ := h; exact ⟨none, 0, none, 0, h1, OwnV.none _ _ h2.size _ _ _, h2⟩
  | some v => obtain ⟨b, c, d, f, h1, h2, h3⟩ := h; exact ⟨b, c, d, f, h1, h2, h3⟩
end Go.Proofs.Ytlbhfgcpflhccaa
namespace Go.Proofs.Ytlbhfgcpflhccaa
set_option maxRecDepth 100000
open Go Go.ChangeShapes Go.WideShapes Go.ChangeAt Go.RowKit G00541
theorem kbox6 {w : World} {R : Nat} {o : Obj} (h : w.heap[R]? = some o) : R < w.heap.size := by
  obtain ⟨h1, _⟩ := Array.getElem?_eq_some_iff.1 h
  exact h1
set_option maxHeartbeats 2000000 in
theorem sameVolume_same (a1 a2 d1 d2 : Option Addr) (k1 k2 j1 j2 : Nat) (B : List ByteArray) (F : Int) (L : List Rc) (s : Int) (w : World) (hn : B.length ≤ 1048576) (hm : L.length ≤ 1048576)
    (h1 : Ss w.heap.size a1 B w) (h2 : Ss w.heap.size a2 B w) (g1 : Rs w.heap.size d1 L w) (g2 : Rs w.heap.size d2 L w) :
    Calls Try.prog 9 #[.agg #[.slice a1 B.length k1, .int .i64 F, .slice d1 L.length j1, .int .i64 s], .agg #[.slice a2 B.length k2, .int .i64 F, .slice d2 L.length j2, .int .i64 s]] w fun e w' => e = .returned (.bool true) ∧ Below w.heap.size w w' := by
  have gA := boxB w (.cells #[.slice a1 B.length k1, .int .i64 F, .slice d1 L.length j1, .int .i64 s] 28)
  have kA := heap_last w (.cells #[.slice a1 B.length k1, .int .i64 F, .slice d1 L.length j1, .int .i64 s] 28)
  generalize hW1 : w.alloc (.cells #[.slice a1 B.length k1, .int .i64 F, .slice d1 L.length j1, .int .i64 s] 28) = wa at *
  have gB := boxB wa (.cells #[.slice a2 B.length k2, .int .i64 F, .slice d2 L.length j2, .int .i64 s] 28)
  have kB := heap_last wa (.cells #[.slice a2 B.length k2, .int .i64 F, .slice d2 L.length j2, .int .i64 s] 28)
  generalize hW2 : wa.alloc (.cells #[.slice a2 B.length k2, .int .i64 F, .slice d2 L.length j2, .int .i64 s] 28) = wb at *
  have HG := hid (gA.trans (gB.mono gA.size))
  have HK1 := hid ((gB.block _ (kbox6 kA)).trans kA)
  have HK2 := hid kB
  have HT := hid (sameTexts_same a1 a2 k1 k2 B wb hn ((h1.below HG.out).mono HG.out.size) ((h2.below HG.out).mono HG.out.size))
  have HR := hid (fun v (g : Below w.heap.size w v) => sameRecords_same d1 d2 j1 j2 L v hm ((g1.below g).mono g.size) ((g2.below g).mono g.size))
  have x0 := box_cell HK1.out 0
  have y0 := box_cell HK2.out 0
  simp only [List.getElem?_toArray, List.getElem?_cons_zero] at x0 y0
  clear gA kA gB kB h1 h2 g1 g2
  go_enter Try.func9, Try.ntmps9
  go_wp2_with fail
  refine HT.out.mono ?_
  rintro e w1 ⟨rfl, b1⟩
  have HB1 := hid (HG.out.trans (b1.mono HG.out.size))
  have q1 := (b1.block _ (kbox6 HK1.out)).trans HK1.out
  have q2 := (b1.block _ (kbox6 HK2.out)).trans HK2.out
  have x1 := box_cell q1 1
  have x2 := box_cell q1 2
  have x3 := box_cell q1 3
  have y1 := box_cell q2 1
  have y2 := box_cell q2 2
  have y3 := box_cell q2 3
  simp only [List.getElem?_toArray, List.getElem?_cons_zero, List.getElem?_cons_succ] at x1 x2 x3 y1 y2 y3
  have HQ1 := hid q1
  have HQ2 := hid q2
  clear x0 y0 q1 q2 b1
  go_wp2_with fail
  refine (HR.out _ HB1.out).mono ?_
  rintro e w2 ⟨rfl, b2⟩
  have HB2 := hid (HB1.out.trans (b2.mono HB1.out.size))
  have q1 := (b2.block _ (kbox6 HQ1.out)).trans HQ1.out
  have q2 := (b2.block _ (kbox6 HQ2.out)).trans HQ2.out
  have z3 := box_cell q1 3
  have u3 := box_cell q2 3
  simp only [List.getElem?_toArray, List.getElem?_cons_zero, List.getElem?_cons_succ] at z3 u3
  clear x1 x2 x3 y1 y2 y3 q1 q2 b2
  go_wp2_with fail
  go_ret
  exact ⟨rfl, HB2.out⟩
/-- no op but a write, a trim or a crash changes any block -/
theorem do_same {B : List ByteArray} {F : Int} {L : List Rc} {s : Int} {o : Op} {v : Vol} (h : doV B F L s o = some v) (hk : o.kind = 3 ∨ o.kind = 4 ∨ o.kind = 6) : doL v.1 v.2.2.1 = doL B L := by
  have happ : ∀ (X Y : List Rc), doL B (X ++ Y) = doL (doL B X) Y := fun X Y => by unfold doL; rw [List.foldl_append]
  rcases hk with hk | hk | hk
  · rw [doV_rec (by omega)] at h
    unfold recDo at h
    split at h
    · rename_i hr
      injection h with h
      subst h
      have hgood : G00541.goodR (opR o) = true := by
        have h1 := hr.1
        unfold recOk at h1
        rw [Bool.and_eq_true] at h1
        exact h1.2
      have hl : (opR o).long = 0 := (G00541.good_cases hgood).2.2.2.2.2.2.2.2.1 hk
      show doL B (L ++ [opR o]) = doL B L
      rw [happ]
      show doR (doL B L) (opR o) = doL B L
      unfold doR
      rw [hl]
      rfl
    · cases h
  · by_cases g : restOk o
    · rw [doV_four hk g] at h
      injection h with h
      subst h
      rfl
    · rw [doV_rest (by omega) g] at h
      cases h
  · by_cases g : restOk o
    · rw [doV_six hk g] at h
      unfold foldDo at h
      injection h with h
      subst h
      show doL (doL B (L.take s.toNat)) (L.drop s.toNat) = doL B L
      rw [← happ, List.take_append_drop]
    · rw [doV_rest (by omega) g] at h
      cases h
/-- what BlocksIn answers -/
def blV (B : List ByteArray) (F : Int) (L : List Rc) (s : Int) : List ByteArray := cond (goodV B F L s) (doL B L) []
theorem blOut_any {B : List ByteArray} {F : Int} {L : List Rc} {s : Int} {w : World} {e : Ending} {w' : World} (h : BlOut B F L s w e w') :
    ∃ b c, e = .returned (.tuple #[.slice b (blV B F L s).length c, .bool (goodV B F L s)]) ∧ Ss w'.heap.size b (blV B F L s) w' ∧ (blV B F L s).length ≤ c ∧ Below w.heap.size w w' := by
  unfold BlOut at h
  unfold blV
  rcases h with ⟨hg, R, c, he, h1, h2, h3, h4⟩ | ⟨hg, he, h3⟩
  · rw [hg]
    have hl : (doL B L).length = 16 := by
      rw [doL_len]
      have := (goodV_iff.1 hg).bs
      exact goodBs_len this
    show ∃ b c, e = .returned (.tuple #[.slice b (doL B L).length c, .bool true]) ∧ Ss w'.heap.size b (doL B L) w' ∧ (doL B L).length ≤ c ∧ Below w.heap.size w w'
    rw [hl]
    exact ⟨_, c, he, h2.sl h2.lt, h4, h3⟩
  · rw [hg]
    exact ⟨none, 0, he, ⟨fun h0 => absurd h0 (by simp)⟩, Nat.le_refl _, h3⟩
/-- what is told of an op that is done -/
theorem done_of {B : List ByteArray} {F : Int} {L : List Rc} {s : Int} {o : Op} (h : (goDo B F L s o).isSome = true) :
    goodV B F L s = true ∧ goodV (volOf (goDo B F L s o)).1 (volOf (goDo B F L s o)).2.1 (volOf (goDo B F L s o)).2.2.1 (volOf (goDo B F L s o)).2.2.2 = true ∧
    (o.kind = 3 ∨ o.kind = 4 ∨ o.kind = 6 → blV (volOf (goDo B F L s o)).1 (volOf (goDo B F L s o)).2.1 (volOf (goDo B F L s o)).2.2.1 (volOf (goDo B F L s o)).2.2.2 = blV B F L s) := by
  cases hg : goodV B F L s
  · rw [goDo_no hg] at h; cases h
  · rw [goDo_yes hg] at h ⊢
    cases hv : doV B F L s o with
    | none => rw [hv] at h; cases h
    | some v =>
      have hG := goodV_do (goodV_iff.1 hg) hv
      have hG2 : goodV v.1 v.2.1 v.2.2.1 v.2.2.2 = true := goodV_iff.2 hG
      refine ⟨rfl, hG2, fun hk => ?_⟩
      show blV v.1 v.2.1 v.2.2.1 v.2.2.2 = blV B F L s
      unfold blV
      rw [hG2, hg]
      exact do_same hv hk
theorem volOf_len {B : List ByteArray} {F : Int} {L : List Rc} {s : Int} {o : Op} : (volOf (goDo B F L s o)).1.length ≤ 9999 ∧ (volOf (goDo B F L s o)).2.2.1.length ≤ 9999 := by
  cases h : goDo B F L s o with
  | none => exact ⟨Nat.zero_le _, Nat.zero_le _⟩
  | some v => exact goDo_small h
/-- what is kept: the bytes still to be read, boxes, texts and records -/
structure S6 (w0 : World) (X : List (Nat × Array Value × TypeId)) (T : List (Option Addr × List ByteArray)) (R : List (Option Addr × List Rc)) (l2 c2 : Nat) (a2 : Option Addr) (w : World) : Prop where
  below : Below w0.heap.size w0 w
  code : Code w0.heap.size l2 c2 a2 w
  bx : ∀ p ∈ X, w.heap[p.1]? = some (.cells p.2.1 p.2.2)
  ts : ∀ p ∈ T, Ss w.heap.size p.1 p.2 w
  rs : ∀ p ∈ R, Rs w.heap.size p.1 p.2 w
section
variable {w0 w w' : World} {X : List (Nat × Array Value × TypeId)} {T : List (Option Addr × List ByteArray)} {R : List (Option Addr × List Rc)} {l2 c2 : Nat} {a2 : Option Addr}
theorem S6.on (h : S6 w0 X T R l2 c2 a2 w) (g : Below w.heap.size w w') : S6 w0 X T R l2 c2 a2 w' :=
  ⟨h.below.trans (g.mono h.below.size), h.code.below (g.mono h.below.size), fun p hp => (g.block _ (kbox6 (h.bx p hp))).trans (h.bx p hp), fun p hp => ((h.ts p hp).below g).mono g.size, fun p hp => ((h.rs p hp).below g).mono g.size⟩
theorem S6.box (h : S6 w0 X T R l2 c2 a2 w) (cs : Array Value) (t : TypeId) : S6 w0 ((w.heap.size, cs, t) :: X) T R l2 c2 a2 (w.alloc (.cells cs t)) := by
  have g := h.on (boxB w (.cells cs t))
  exact ⟨g.below, g.code, fun p hp => by
    rcases List.mem_cons.1 hp with rfl | hp
    · exact heap_last _ _
    · exact g.bx p hp, g.ts, g.rs⟩
theorem S6.addT (h : S6 w0 X T R l2 c2 a2 w) {b : Option Addr} {l : List ByteArray} (hx : Ss w.heap.size b l w) : S6 w0 X ((b, l) :: T) R l2 c2 a2 w :=
  ⟨h.below, h.code, h.bx, fun p hp => by
    rcases List.mem_cons.1 hp with rfl | hp
    · exact hx
    · exact h.ts p hp, h.rs⟩
theorem S6.addR (h : S6 w0 X T R l2 c2 a2 w) {b : Option Addr} {l : List Rc} (hx : Rs w.heap.size b l w) : S6 w0 X T ((b, l) :: R) l2 c2 a2 w :=
  ⟨h.below, h.code, h.bx, h.ts, fun p hp => by
    rcases List.mem_cons.1 hp with rfl | hp
    · exact hx
    · exact h.rs p hp⟩
theorem S6.t (h : S6 w0 X T R l2 c2 a2 w) (b : Option Addr) (l : List ByteArray) (hp : (b, l) ∈ T) : Ss w.heap.size b l w := h.ts _ hp
theorem S6.r (h : S6 w0 X T R l2 c2 a2 w) (b : Option Addr) (l : List Rc) (hp : (b, l) ∈ R) : Rs w.heap.size b l w := h.rs _ hp
theorem S6.b (h : S6 w0 X T R l2 c2 a2 w) (n : Nat) (cs : Array Value) (t : TypeId) (hp : (n, cs, t) ∈ X) : w.heap[n]? = some (.cells cs t) := h.bx _ hp
theorem S6.bare (h : S6 w0 X T R l2 c2 a2 w) : S6 w0 [] [] [] l2 c2 a2 w := ⟨h.below, h.code, (fun _ h => by cases h), (fun _ h => by cases h), (fun _ h => by cases h)⟩
theorem S6.draw (h : S6 w0 X T R l2 c2 a2 w) : Code w.heap.size l2 c2 a2 w := h.code.mono h.below.size
end
/-- a box of four, read -/
theorem bx4 {w : World} {n : Nat} {a b c d : Value} {t : TypeId} (h : w.heap[n]? = some (.cells #[a, b, c, d] t)) : w.cell? ⟨n, 0, none⟩ = some a ∧ w.cell? ⟨n, 1, none⟩ = some b ∧ w.cell? ⟨n, 2, none⟩ = some c ∧ w.cell? ⟨n, 3, none⟩ = some d := ⟨box_cell h 0, box_cell h 1, box_cell h 2, box_cell h 3⟩
theorem bx5 {w : World} {n : Nat} {a b c d e : Value} {t : TypeId} (h : w.heap[n]? = some (.cells #[a, b, c, d, e] t)) : w.cell? ⟨n, 0, none⟩ = some a ∧ w.cell? ⟨n, 1, none⟩ = some b ∧ w.cell? ⟨n, 2, none⟩ = some c ∧ w.cell? ⟨n, 3, none⟩ = some d ∧ w.cell? ⟨n, 4, none⟩ = some e := ⟨box_cell h 0, box_cell h 1, box_cell h 2, box_cell h 3, box_cell h 4⟩
end Go.Proofs.Ytlbhfgcpflhccaa
namespace Go.Proofs.Ytlbhfgcpflhccaa
set_option maxRecDepth 100000
open Go.ChangeShapes Go.WideShapes Go.ChangeAt Go.RowKit G00541
def markV (B : List ByteArray) (F : Int) (L : List Rc) (s : Int) : Int := if goodV B F L s = true then markF F L else 0
theorem markV_yes {B : List ByteArray} {F : Int} {L : List Rc} {s : Int} (h : goodV B F L s = true) : markV B F L s = markF F L := by unfold markV; rw [if_pos h]
theorem markV_no {B : List ByteArray} {F : Int} {L : List Rc} {s : Int} (h : goodV B F L s = false) : markV B F L s = 0 := by unfold markV; rw [if_neg (by rw [h]; decide)]
set_option maxHeartbeats 1000000 in
theorem smark_any (aB aL : Option Addr) (kB kL : Nat) (B : List ByteArray) (F : Int) (L : List Rc) (s : Int) (w : World) (hf : B.length ≤ 1048576 ∧ L.length ≤ 1048576) (hB : Ss w.heap.size aB B w) (hL : Rs w.heap.size aL L w) :
    Calls Try.prog 25 #[.agg #[.slice aB B.length kB, .int .i64 F, .slice aL L.length kL, .int .i64 s]] w fun e w' => e = .returned (.tuple #[.int .i64 (markV B F L s), .bool (goodV B F L s)]) ∧ Below w.heap.size w w' := by
  have HB := hid (boxB w (.cells #[.slice aB B.length kB, .int .i64 F, .slice aL L.length kL, .int .i64 s] 28))
  have HC1 : Hid (∀ v, Below w.heap.size w v → Calls Try.prog 20 #[.agg #[.slice aB B.length kB, .int .i64 F, .slice aL L.length kL, .int .i64 s]] v fun e w' => e = .returned (.bool (goodV B F L s)) ∧ Below v.heap.size v w') := fun v g => sgoodV_any aB aL kB kL B F L s v hf ((hB.below g).mono g.size) ((hL.below g).mono g.size)
  have HC2 : Hid (∀ v, Below w.heap.size w v → Calls Try.prog 56 #[.agg #[.slice aB B.length kB, .int .i64 F, .slice aL L.length kL, .int .i64 s]] v fun e w' => e = .returned (.int .i64 (markF F L)) ∧ Below v.heap.size v w') := fun v g => l6Mark_any aB aL kB kL B F L s v hf.2 ((hL.below g).mono g.size)
  have y0 : (w.alloc (.cells #[.slice aB B.length kB, .int .i64 F, .slice aL L.length kL, .int .i64 s] 28)).cell? ⟨w.heap.size, 0, none⟩ = some (.slice aB B.length kB) := by go_simp
  have y1 : (w.alloc (.cells #[.slice aB B.length kB, .int .i64 F, .slice aL L.length kL, .int .i64 s] 28)).cell? ⟨w.heap.size, 1, none⟩ = some (.int .i64 F) := by go_simp
  have y2 : (w.alloc (.cells #[.slice aB B.length kB, .int .i64 F, .slice aL L.length kL, .int .i64 s] 28)).cell? ⟨w.heap.size, 2, none⟩ = some (.slice aL L.length kL) := by go_simp
  have y3 : (w.alloc (.cells #[.slice aB B.length kB, .int .i64 F, .slice aL L.length kL, .int .i64 s] 28)).cell? ⟨w.heap.size, 3, none⟩ = some (.int .i64 s) := by go_simp
  have hlt : w.heap.size < (w.alloc (.cells #[.slice aB B.length kB, .int .i64 F, .slice aL L.length kL, .int .i64 s] 28)).heap.size := by simp
  clear hB hL hf
  have HY := hid (@markV_yes B F L s)
  have HN := hid (@markV_no B F L s)
  cases hg : goodV B F L s
  · rw [HN.out hg]
    rw [hg] at HC1
    clear hg HY HN
    go_enter Try.func25, Try.ntmps25
    go_wp2_with fail
    refine (HC1.out _ HB.out).mono ?_
    rintro e w2 ⟨rfl, b2⟩
    have HB2 := hid (HB.out.trans (b2.mono HB.out.size))
    clear b2
    go_wp2_with fail
    go_ret2
    exact ⟨rfl, HB2.out⟩
  · rw [HY.out hg]
    rw [hg] at HC1
    clear hg HY HN
    go_enter Try.func25, Try.ntmps25
    go_wp2_with fail
    generalize w.alloc (.cells #[.slice aB B.length kB, .int .i64 F, .slice aL L.length kL, .int .i64 s] 28) = W at *
    refine (HC1.out _ HB.out).mono ?_
    rintro e w2 ⟨rfl, b2⟩
    have HB2 := hid (HB.out.trans (b2.mono HB.out.size))
    rw [← b2.cell (p := ⟨w.heap.size, 0, none⟩) hlt] at y0
    rw [← b2.cell (p := ⟨w.heap.size, 1, none⟩) hlt] at y1
    rw [← b2.cell (p := ⟨w.heap.size, 2, none⟩) hlt] at y2
    rw [← b2.cell (p := ⟨w.heap.size, 3, none⟩) hlt] at y3
    clear b2
    go_wp2_with fail
    refine (HC2.out _ HB2.out).mono ?_
    rintro e w3 ⟨rfl, b3⟩
    have HB3 := hid (HB2.out.trans (b3.mono HB2.out.size))
    clear b3
    go_wp2_with fail
    go_ret2
    exact ⟨rfl, HB3.out⟩
set_option maxHeartbeats 1000000 in
theorem imark_any (aB aL : Option Addr) (kB kL : Nat) (B : List ByteArray) (F : Int) (L : List Rc) (s : Int) (w : World) (hf : B.length ≤ 1048576 ∧ L.length ≤ 1048576) (hB : Ss w.heap.size aB B w) (hL : Rs w.heap.size aL L w) :
    Calls Try.prog 17 #[.agg #[.slice aB B.length kB, .int .i64 F, .slice aL L.length kL, .int .i64 s]] w fun e w' => e = .returned (.tuple #[.int .i64 (markV B F L s), .bool (goodV B F L s)]) ∧ Below w.heap.size w w' := by
  have HB := hid (boxB w (.cells #[.slice aB B.length kB, .int .i64 F, .slice aL L.length kL, .int .i64 s] 28))
  have HC1 : Hid (∀ v, Below w.heap.size w v → Calls Try.prog 13 #[.agg #[.slice aB B.length kB, .int .i64 F, .slice aL L.length kL, .int .i64 s]] v fun e w' => e = .returned (.bool (goodV B F L s)) ∧ Below v.heap.size v w') := fun v g => igoodV_any aB aL kB kL B F L s v hf ((hB.below g).mono g.size) ((hL.below g).mono g.size)
  have HC2 : Hid (∀ v, Below w.heap.size w v → Calls Try.prog 44 #[.int .i64 F, .slice aL L.length kL] v fun e w' => e = .returned (.int .i64 (markF F L)) ∧ Below v.heap.size v w') := fun v g => markBehind_any aL kL F L v hf.2 ((hL.below g).mono g.size)
  have y1 : (w.alloc (.cells #[.slice aB B.length kB, .int .i64 F, .slice aL L.length kL, .int .i64 s] 28)).cell? ⟨w.heap.size, 1, none⟩ = some (.int .i64 F) := by go_simp
  have y2 : (w.alloc (.cells #[.slice aB B.length kB, .int .i64 F, .slice aL L.length kL, .int .i64 s] 28)).cell? ⟨w.heap.size, 2, none⟩ = some (.slice aL L.length kL) := by go_simp
  have hlt : w.heap.size < (w.alloc (.cells #[.slice aB B.length kB, .int .i64 F, .slice aL L.length kL, .int .i64 s] 28)).heap.size := by simp
  clear hB hL hf
  have HY := hid (@markV_yes B F L s)
  have HN := hid (@markV_no B F L s)
  cases hg : goodV B F L s
  · rw [HN.out hg]
    rw [hg] at HC1
    clear hg HY HN
    go_enter Try.func17, Try.ntmps17
    go_wp2_with fail
    refine (HC1.out _ HB.out).mono ?_
    rintro e w2 ⟨rfl, b2⟩
    have HB2 := hid (HB.out.trans (b2.mono HB.out.size))
    clear b2
    go_wp2_with fail
    go_ret2
    exact ⟨rfl, HB2.out⟩
  · rw [HY.out hg]
    rw [hg] at HC1
    clear hg HY HN
    go_enter Try.func17, Try.ntmps17
    go_wp2_with fail
    refine (HC1.out _ HB.out).mono ?_
    rintro e w2 ⟨rfl, b2⟩
    have HB2 := hid (HB.out.trans (b2.mono HB.out.size))
    rw [← b2.cell (p := ⟨w.heap.size, 1, none⟩) hlt] at y1
    rw [← b2.cell (p := ⟨w.heap.size, 2, none⟩) hlt] at y2
    clear b2
    go_wp2_with fail
    refine (HC2.out _ HB2.out).mono ?_
    rintro e w3 ⟨rfl, b3⟩
    have HB3 := hid (HB2.out.trans (b3.mono HB2.out.size))
    clear b3
    go_wp2_with fail
    go_ret2
    exact ⟨rfl, HB3.out⟩
end Go.Proofs.Ytlbhfgcpflhccaa
namespace Go.Proofs.Ytlbhfgcpflhccaa
set_option maxRecDepth 100000
open Go Go.ChangeShapes Go.WideShapes Go.ChangeAt Go.RowKit G00541
/-- the records that were not lost, how many are sure and how many are folded, of a volume -/
structure KR (K : List Rc) (sure base : Nat) (v : Vol) : Prop where
  log : K.drop base = v.2.2.1
  bs : foldR (K.take base) = v.1
  su : v.2.2.2 = (sure : Int) - (base : Int)
  lo : base ≤ sure
  hi : sure ≤ K.length
  gd : goodL K = true
theorem foldR_app (X Y : List Rc) : foldR (X ++ Y) = doL (foldR X) Y := by unfold foldR doL; rw [List.foldl_append]
theorem KR.new : KR [] 0 0 newV := ⟨rfl, rfl, rfl, Nat.le_refl _, Nat.le_refl _, rfl⟩
theorem KR.len {K : List Rc} {sure base : Nat} {v : Vol} (h : KR K sure base v) : v.2.2.1.length = K.length - base := by rw [← h.log, List.length_drop]
theorem KR.blocks {K : List Rc} {sure base : Nat} {v : Vol} (h : KR K sure base v) : doL v.1 v.2.2.1 = foldR K := by
  rw [← h.bs, ← h.log, ← foldR_app, List.take_append_drop]
theorem KR.four {K : List Rc} {sure base : Nat} {v u : Vol} {o : Op} (h : KR K sure base v) (hk : o.kind = 4) (hd : doV v.1 v.2.1 v.2.2.1 v.2.2.2 o = some u) : KR K K.length base u := by
  have hl := h.len
  have h1 := h.lo
  have h2 := h.hi
  by_cases g : restOk o
  · rw [doV_four hk g] at hd
    injection hd with hd
    subst hd
    exact ⟨h.log, h.bs, by show ((v.2.2.1.length : Nat) : Int) = _; omega, by omega, Nat.le_refl _, h.gd⟩
  · rw [doV_rest (by omega) g] at hd
    cases hd
theorem KR.six {K : List Rc} {sure base : Nat} {v u : Vol} {o : Op} (h : KR K sure base v) (hk : o.kind = 6) (hd : doV v.1 v.2.1 v.2.2.1 v.2.2.2 o = some u) : KR K sure sure u := by
  have h1 := h.lo
  have h2 := h.hi
  have h3 := h.su
  by_cases g : restOk o
  · rw [doV_six hk g] at hd
    unfold foldDo at hd
    injection hd with hd
    subst hd
    have hs : v.2.2.2.toNat = sure - base := by omega
    refine ⟨?_, ?_, by show (0 : Int) = _; omega, Nat.le_refl _, h2, h.gd⟩
    · show K.drop sure = v.2.2.1.drop v.2.2.2.toNat
      rw [← h.log, List.drop_drop, hs, show base + (sure - base) = sure by omega]
    · show foldR (K.take sure) = doL v.1 (v.2.2.1.take v.2.2.2.toNat)
      rw [← h.log, ← h.bs, ← foldR_app, hs]
      congr 1
      rw [← List.take_add, show base + (sure - base) = sure by omega]
  · rw [doV_rest (by omega) g] at hd
    cases hd
theorem KR.five {K : List Rc} {sure base : Nat} {v u : Vol} {o : Op} (h : KR K sure base v) (hk : o.kind = 5) (hd : doV v.1 v.2.1 v.2.2.1 v.2.2.2 o = some u) :
    ∃ n : Nat, o.keep = (n : Int) ∧ base + n ≤ K.length ∧ KR (K.take (base + n)) (K.take (base + n)).length base u := by
  have h1 := h.lo
  have h2 := h.hi
  have h3 := h.su
  have hl := h.len
  by_cases g : restOk o
  · rw [doV_five hk g] at hd
    unfold crashDo at hd
    split at hd
    · rename_i hc
      injection hd with hd
      subst hd
      obtain ⟨n, hn⟩ : ∃ n : Nat, o.keep = (n : Int) := ⟨o.keep.toNat, by omega⟩
      have hle : base + n ≤ K.length := by omega
      have hlen : (K.take (base + n)).length = base + n := by rw [List.length_take]; omega
      refine ⟨n, hn, hle, ?_, ?_, ?_, by omega, Nat.le_refl _, goodL_take h.gd _⟩
      · show (K.take (base + n)).drop base = v.2.2.1.take o.keep.toNat
        rw [← h.log, List.drop_take, hn, Int.toNat_natCast, show base + n - base = n by omega]
      · show foldR ((K.take (base + n)).take base) = v.1
        rw [List.take_take, Nat.min_eq_left (by omega)]
        exact h.bs
      · show o.keep = _
        omega
    · cases hd
  · rw [doV_rest (by omega) g] at hd
    cases hd
theorem KR.one {K : List Rc} {sure base : Nat} {v u : Vol} {o : Op} (h : KR K sure base v) (h4 : o.kind ≠ 4) (h5 : o.kind ≠ 5) (h6 : o.kind ≠ 6) (hd : doV v.1 v.2.1 v.2.2.1 v.2.2.2 o = some u) :
    recOk o = true ∧ KR (K ++ [opR o]) sure base u := by
  have h1 := h.lo
  have h2 := h.hi
  by_cases g : 1 ≤ o.kind ∧ o.kind ≤ 3
  · rw [doV_rec g] at hd
    unfold recDo at hd
    split at hd
    · rename_i hc
      injection hd with hd
      subst hd
      have hr : goodR (opR o) = true := by
        have := hc.1
        unfold recOk at this
        rw [Bool.and_eq_true] at this
        exact this.2
      refine ⟨hc.1, ?_, ?_, h.su, h1, by rw [List.length_append]; omega, goodL_app h.gd _ hr⟩
      · show (K ++ [opR o]).drop base = v.2.2.1 ++ [opR o]
        rw [List.drop_append_of_le_length (by omega), h.log]
      · show foldR ((K ++ [opR o]).take base) = v.1
        rw [List.take_append_of_le_length (by omega)]
        exact h.bs
    · cases hd
  · rw [doV_other (by omega)] at hd
    cases hd
theorem runV_app (l m : List Op) (s : Vol × List Bool) : runV (l ++ m) s = runV m (runV l s) := by
  induction l generalizing s with
  | nil => rfl
  | cons x l ih => exact ih _
theorem runV_pre (l : List Op) (s : Vol × List Bool) : ∃ t, (runV l s).2 = s.2 ++ t := by
  induction l generalizing s with
  | nil => exact ⟨[], by simp [runV]⟩
  | cons x l ih =>
    obtain ⟨t, ht⟩ := ih (nextV s.1 x, s.2 ++ [didV s.1 x])
    exact ⟨didV s.1 x :: t, by show (runV l (nextV s.1 x, s.2 ++ [didV s.1 x])).2 = _; rw [ht, List.append_assoc]; rfl⟩
theorem run_next (l : List Op) (k : Nat) (hk : k < l.length) : runV (l.take (k + 1)) (newV, []) = (nextV (runV (l.take k) (newV, [])).1 l[k], (runV (l.take k) (newV, [])).2 ++ [didV (runV (l.take k) (newV, [])).1 l[k]]) := by
  rw [List.take_succ_eq_append_getElem hk, runV_snoc]
theorem run_at (l : List Op) (k : Nat) (hk : k < l.length) (hd : k < (runV l (newV, [])).2.length) : (runV l (newV, [])).2[k] = didV (runV (l.take k) (newV, [])).1 l[k] := by
  have e : runV l (newV, []) = runV (l.drop (k + 1)) (runV (l.take (k + 1)) (newV, [])) := by rw [← runV_app, List.take_append_drop]
  obtain ⟨t, ht⟩ := runV_pre (l.drop (k + 1)) (runV (l.take (k + 1)) (newV, []))
  have h2 : (runV l (newV, [])).2[k]? = some (didV (runV (l.take k) (newV, [])).1 l[k]) := by
    rw [e, ht, run_next l k hk]
    have hl : (runV (l.take k) (newV, [])).2.length = k := by rw [runV_len, List.length_take]; simp; omega
    rw [List.append_assoc, List.getElem?_append_right (by omega), hl, Nat.sub_self]
    rfl
  rw [List.getElem?_eq_getElem hd] at h2
  injection h2
/-- one op of the law's own book -/
theorem did_some {v : Vol} {o : Op} (h : didV v o = true) : doV v.1 v.2.1 v.2.2.1 v.2.2.2 o = some (nextV v o) := by
  unfold didV at h
  unfold nextV
  cases e : doV v.1 v.2.1 v.2.2.1 v.2.2.2 o with
  | none => rw [e] at h; cases h
  | some u => rfl
theorem did_none {v : Vol} {o : Op} (h : didV v o = false) : nextV v o = v := by
  unfold didV at h
  unfold nextV
  cases e : doV v.1 v.2.1 v.2.2.1 v.2.2.2 o with
  | none => rfl
  | some u => rw [e] at h; cases h
/-- what the fold of a good volume is -/
theorem fold_of {B : List ByteArray} {F : Int} {L : List Rc} {s : Int} (h : GoodV B F L s) : (goDo B F L s ⟨6, 0, 0, ⟨#[]⟩, 0⟩).isSome = true ∧ markV (volOf (goDo B F L s ⟨6, 0, 0, ⟨#[]⟩, 0⟩)).1 (volOf (goDo B F L s ⟨6, 0, 0, ⟨#[]⟩, 0⟩)).2.1 (volOf (goDo B F L s ⟨6, 0, 0, ⟨#[]⟩, 0⟩)).2.2.1 (volOf (goDo B F L s ⟨6, 0, 0, ⟨#[]⟩, 0⟩)).2.2.2 = markV B F L s := by
  have hg : goodV B F L s = true := goodV_iff.2 h
  have hr : restOk ⟨6, 0, 0, ⟨#[]⟩, 0⟩ := ⟨rfl, rfl, rfl, Or.inr rfl⟩
  have hd : goDo B F L s ⟨6, 0, 0, ⟨#[]⟩, 0⟩ = foldDo B F L s := by rw [goDo_yes hg, doV_six rfl hr]
  have h1 : (goDo B F L s ⟨6, 0, 0, ⟨#[]⟩, 0⟩).isSome = true := by rw [hd]; rfl
  refine ⟨h1, ?_⟩
  rw [markV_yes hg, markV_yes (done_of h1).2.1, hd]
  show markF (markF F (L.take s.toNat)) (L.drop s.toNat) = markF F L
  rw [← markF_app, List.take_append_drop]
/-- a row of records, cut -/
theorem rvals_take (K : List Rc) (n : Nat) : (rvals K).take (n * 4) = rvals (K.take n) := by
  induction K generalizing n with
  | nil => simp [rvals]
  | cons r K ih =>
    cases n with
    | zero => simp [rvals]
    | succ n =>
      have e : rvals (r :: K) = rcells r ++ rvals K := by simp [rvals]
      have e2 : rvals (r :: K.take n) = rcells r ++ rvals (K.take n) := by simp [rvals]
      have hl : (rcells r).length = 4 := rfl
      rw [e, List.take_succ_cons, e2, List.take_append, hl, List.take_of_length_le (by omega), show (n + 1) * 4 - 4 = n * 4 by omega, ih]
theorem own_cut {W : World} {lo : Nat} {a : Option Addr} {c : Nat} {K : List Rc} (h : W.ownsRow lo 37 4 (.slice a K.length c) K.length (rvals K)) (n : Nat) (s : Int) (hs : s = n) (hn : n ≤ K.length) :
    (∀ u, Sem.run Try.prog (Instr.slice 26 (.slice a K.length c) none (some (.int .i64 s)) none) u = .ok (.slice a n c) u) ∧ W.ownsRow lo 37 4 (.slice a n c) (K.take n).length (rvals (K.take n)) := by
  subst hs
  have hz : ∀ v, Sem.run Try.prog (Go.sizeOf (Try.prog.elem 26)) v = .ok 4 v := fun v => by kernel_rfl
  have hk := (rw_cap h).1
  have e : (K.take n).length = n := by rw [List.length_take]; omega
  refine ⟨fun v => ?_, ?_⟩
  · have h := run_slice_h (P := Try.prog) v 26 a K.length c (by kernel_rfl) .i64 (n : Int) (by omega) (by omega)
    rw [h, hz]
    simp only [Result.andThen, sliced, Int.toNat_natCast, Nat.sub_zero, Nat.zero_mul]
    congr 2
    split
    · rfl
    · cases a with
      | none => rfl
      | some a => simp [Addr.add]
  · obtain ⟨_, h2⟩ := h
    rw [e]
    refine ⟨by rw [rvals_len, e], ?_⟩
    rcases h2 with ⟨h3, h4⟩ | ⟨g, cap, cur, h3, h4, h5, h6, h7, h8, h9⟩
    · injection h3 with e1 e2 e3
      subst e1 e3
      exact Or.inl ⟨by rw [show n = 0 by omega], by omega⟩
    · injection h3 with e1 e2 e3
      subst e1 e3
      refine Or.inr ⟨g, _, cur, rfl, h4, h5, by omega, h7, h8, ?_⟩
      rw [← rvals_take, ← h9, List.take_take, Nat.min_eq_left (by omega)]
theorem own_rs {W : World} {lo : Nat} {v : Value} {K : List Rc} (h : W.ownsRow lo 37 4 v K.length (rvals K)) : ∃ b c, v = .slice b K.length c ∧ K.length ≤ c ∧ Rs W.heap.size b K W := by
  obtain ⟨b, c, rfl, ho⟩ := own_recs h
  exact ⟨b, c, rfl, (rw_cap h).1, ho.rs⟩
set_option maxHeartbeats 1000000 in
theorem sameBools_same (a1 a2 : Option Addr) (c1 c2 : Nat) (l : List Bool) (w : World) (hn : l.length ≤ 1048576) (h1 : Bs w.heap.size a1 l w) (h2 : Bs w.heap.size a2 l w) :
    Calls Try.prog 8 #[.slice a1 l.length c1, .slice a2 l.length c2] w fun e w' => e = .returned (.bool true) ∧ Below w.heap.size w w' := by
  have H1 : Hid (Bs w.heap.size a1 l w) := h1
  have H2 : Hid (Bs w.heap.size a2 l w) := h2
  clear h1 h2
  go_enter Try.func8, Try.ntmps8
  go_wp2
  go_loopw [13] (fun i wr => ∃ k : Nat, k ≤ l.length ∧ i = .int .i64 k ∧ Below w.heap.size w wr) (fun i _ => l.length - (intOf i).toNat)
  case atStart => exact ⟨0, Nat.zero_le _, rfl, Below.refl _ _⟩
  case round =>
    obtain ⟨k, hk, rfl, hbel⟩ := hrel
    have HBEL : Hid (Below w.heap.size w wr) := hbel
    by_cases hlt : k < l.length
    · obtain ⟨b1, o1, rfl, hb1, hc1⟩ := H1.out.cell (by omega)
      obtain ⟨b2, o2, rfl, hb2, hc2⟩ := H2.out.cell (by omega)
      have x0 := (hbel.cell (p := ⟨b1, o1 + k, none⟩) hb1).trans (hc1 k hlt)
      have y0 := (hbel.cell (p := ⟨b2, o2 + k, none⟩) hb2).trans (hc2 k hlt)
      clear hc1 hc2 hbel
      generalize l[k] = n at *
      have hnn : (n != n) = false := by cases n <;> rfl
      go_wp2
      go_region
      all_goals
        go_wp2
        go_roundw
        · exact ⟨k + 1, by omega, by go_num, HBEL.out.drew⟩
        · simp [intOf]; omega
    · clear hbel
      go_wp2
      go_ret
      exact ⟨rfl, HBEL.out⟩
set_option maxHeartbeats 1000000 in
theorem drawPlayVolume_any (len cap : Nat) (a : Option Addr) (w : World) (hK : Code w.heap.size len cap a w) :
    Calls Try.prog 5 #[.slice a len cap] w fun e w' => ∃ (l : List Op) (b : Option Addr) (c : Nat), e = .returned (.slice b l.length c) ∧ l.length ≤ 61 ∧ Os w'.heap.size b l w' ∧ Below w.heap.size w w' := by
  have HC : Hid (Cur w.heap.size 0 (.slice a len cap) (w.alloc (.cells #[.slice a len cap, .int .i64 0, .int .u64 0] 63))) := Cur.start _ _ _
  have HK : Hid (Code w.heap.size len cap a (w.alloc (.cells #[.slice a len cap, .int .i64 0, .int .u64 0] 63))) := hK.start _
  have HD := hid (fun w' (h : But w.heap.size (w.alloc (.cells #[.slice a len cap, .int .i64 0, .int .u64 0] 63)) w') => But.done h)
  clear hK
  go_enter Try.func5, Try.ntmps5
  go_wp2_with fail
  generalize w.alloc (.cells #[.slice a len cap, .int .i64 0, .int .u64 0] 63) = w1 at *
  refine (volOps_any w.heap.size 0 len cap a _ (by omega) HC.out HK.out).mono ?_
  rintro e w2 ⟨v, l, rfl, h61, _, hO, _, hB2⟩
  obtain ⟨b, c, rfl, ho⟩ := hO.own
  have HB := hid (HD.out _ hB2)
  have HO := hid ho.os
  clear hO ho hB2 HC HK HD
  go_wp2_with fail
  go_ret
  exact ⟨l, b, c, rfl, h61, HO.out, HB.out⟩
theorem play_of (l : List Op) : ((plV l).1.length ≤ 9999 ∧ (plV l).2.2.1.length ≤ 9999 ∧ (plD l).length ≤ 9999) ∧ (plOk l = true → l.length ≤ 60 ∧ (plV l) = (runV l (newV, [])).1 ∧ (plD l).length = l.length ∧ (∀ k (hk : k < l.length), ∃ hd : k < (plD l).length, (plD l)[k] = didV (runV (l.take k) (newV, [])).1 l[k]) ∧ goodV (plV l).1 (plV l).2.1 (plV l).2.2.1 (plV l).2.2.2 = true) := by
  by_cases h : l.length ≤ 60
  · have e1 : plV l = (runV l (newV, [])).1 := by unfold plV; rw [if_pos h]
    have e2 : plD l = (runV l (newV, [])).2 := by unfold plD; rw [if_pos h]
    have hg := runV_good l (newV, []) GoodVol.new
    have hlen : (runV l (newV, [])).2.length = l.length := by rw [runV_len]; simp
    have h16 := goodBs_len hg.bs
    have h40 := hg.len
    rw [e1, e2]
    refine ⟨⟨by omega, by omega, by omega⟩, fun _ => ⟨h, rfl, hlen, fun k hk => ⟨by omega, run_at l k hk _⟩, goodV_iff.2 hg⟩⟩
  · have e1 : plV l = ([], 0, [], 0) := by unfold plV; rw [if_neg h]
    have e2 : plD l = [] := by unfold plD; rw [if_neg h]
    have e3 : plOk l = false := by unfold plOk; exact decide_eq_false h
    rw [e1, e2, e3]
    exact ⟨⟨Nat.zero_le _, Nat.zero_le _, Nat.zero_le _⟩, fun h => by cases h⟩
end Go.Proofs.Ytlbhfgcpflhccaa
namespace Go.Proofs.Ytlbhfgcpflhccaa
set_option maxRecDepth 100000
open Go Go.ChangeShapes Go.WideShapes Go.ChangeAt Go.RowKit G00541
theorem ifold_ok (b : Option Addr) (c : Nat) (K : List Rc) (w : World) (hn : K.length ≤ 60) (hg : goodL K = true) (hR : Rs w.heap.size b K w) :
    Calls Try.prog 12 #[.slice b K.length c] w fun e w' => ∃ q r, e = .returned (.tuple #[.slice q (foldR K).length r, .bool true]) ∧ Ss w'.heap.size q (foldR K) w' ∧ Below w.heap.size w w' := by
  refine (ifold_any b c K w hn hR).mono ?_
  rintro e w' ⟨h, hb⟩
  have hok : foldOk K = true := by unfold foldOk; rw [hg, Bool.true_and]; exact decide_eq_true hn
  rcases h with ⟨_, R, c, h1, h2, h3⟩ | ⟨h1, _⟩
  · rw [foldR_len]
    exact ⟨_, c, h2, h3.sl h3.lt, hb⟩
  · rw [hok] at h1; cases h1
theorem own_rs2 {W : World} {lo : Nat} {b : Option Addr} {c : Nat} {K : List Rc} (h : W.ownsRow lo 37 4 (.slice b K.length c) K.length (rvals K)) : K.length ≤ c ∧ Rs W.heap.size b K W := by
  obtain ⟨b', c', e, h1, h2⟩ := own_rs h
  injection e with e1 e2 e3
  subst e1 e3
  exact ⟨h1, h2⟩
set_option maxHeartbeats 8000000 in
theorem volume_small (l1 c1 : Nat) (a1 : Option Addr) (w : World) (h1 : l1 ≤ 1048576) (hK1 : Code w.heap.size l1 c1 a1 w) :
    Calls Try.prog 3 #[.slice a1 l1 c1] w fun e w' => e = .returned (.bool true) ∧ Below w.heap.size w w' := by
  have hd : decide ((1048576 : Int) < (l1 : Int)) = false := by simp; omega
  have HS : Hid (S6 w [] [] [] l1 c1 a1 w) := ⟨Below.refl _ _, hK1, (fun _ h => by cases h), (fun _ h => by cases h), (fun _ h => by cases h)⟩
  clear hK1
  go_enter Try.func3, Try.ntmps3
  go_wp2_with fail
  refine (drawPlayVolume_any l1 c1 a1 _ HS.out.draw).mono ?_
  rintro e w1 ⟨l, bO, cO, rfl, h61, hO, hb⟩
  have HS1 := hid (HS.out.on hb)
  have HO1 := hid hO
  have HPI := hid (iplay_any bO cO l w1 (by omega) hO)
  have HPS := hid (fun v (g : Below w1.heap.size w1 v) => splay_any bO cO l v (by omega) ((hO.below g).mono g.size))
  have HPL := hid (play_of l)
  clear HS hb hO
  generalize plV l = V at *
  generalize plD l = D at *
  generalize plOk l = pk at *
  obtain ⟨B, F, L, s⟩ := V
  unfold POut at HPI HPS
  simp only at HPI HPS HPL
  have HN := hid HPL.out.1
  have HV := hid HPL.out.2
  clear HPL
  go_wp2_with fail
  refine HPI.out.mono ?_
  rintro e w2 ⟨aB, kB, aL, kL, aD, kD, hcap, rfl, _, _, _, _, _, _, _, _, _, _, _, oV, oB, hb⟩
  have HS2 := hid (HS1.out.on hb)
  have HR3 := hid oV.read
  have HD3 := hid oB.bs
  have HS3 := hid (((HS2.out.addT HR3.out.1).addR HR3.out.2).box #[.slice aB B.length kB, .int .i64 F, .slice aL L.length kL, .int .i64 s] 28)
  have g3 := boxB w2 (.cells #[.slice aB B.length kB, .int .i64 F, .slice aL L.length kL, .int .i64 s] 28)
  have HB3 := hid (hb.trans (g3.mono hb.size))
  have HD4 := hid ((HD3.out.below g3).mono g3.size)
  clear HS1 HS2 hb oV oB HPI HD3 HR3 g3
  generalize hX : w2.heap.size = P at HS3
  generalize hW : w2.alloc (.cells #[.slice aB B.length kB, .int .i64 F, .slice aL L.length kL, .int .i64 s] 28) = w3 at *
  go_wp2_with fail
  refine (HPS.out _ HB3.out).mono ?_
  rintro e w4 ⟨b4, k4, d4, j4, aE, kE, _, rfl, _, _, _, _, _, _, _, _, _, _, _, oV, oB, hb⟩
  have HS4 := hid (HS3.out.on hb)
  have HR4 := hid oV.read
  have HE4 := hid oB.bs
  have HD5 := hid ((HD4.out.below hb).mono hb.size)
  have HS5 := hid (((HS4.out.addT HR4.out.1).addR HR4.out.2).box #[.slice b4 B.length k4, .int .i64 F, .slice d4 L.length j4, .int .i64 s] 28)
  have g3 := boxB w4 (.cells #[.slice b4 B.length k4, .int .i64 F, .slice d4 L.length j4, .int .i64 s] 28)
  have HB5 := hid ((HB3.out.trans (hb.mono HB3.out.size)).trans (g3.mono (HB3.out.trans (hb.mono HB3.out.size)).size))
  have HD6 := hid ((HD5.out.below g3).mono g3.size)
  have HE6 := hid ((HE4.out.below g3).mono g3.size)
  clear HS3 HS4 hb oV oB HPS HD4 HD5 HE4 HR4 HB3 g3 hX hW
  generalize hX : w4.heap.size = Y at HS5
  generalize hW : w4.alloc (.cells #[.slice b4 B.length k4, .int .i64 F, .slice d4 L.length j4, .int .i64 s] 28) = w5 at *
  have hbk : (pk != pk) = false := by cases pk <;> rfl
  have HSB := hid (sameBools_same aD aE kD kE D w5 (Nat.le_trans HN.out.2.2 (by decide)) HD6.out HE6.out)
  have HSV := hid (fun v (h : S6 w [(Y, #[.slice b4 B.length k4, .int .i64 F, .slice d4 L.length j4, .int .i64 s], 28), (P, #[.slice aB B.length kB, .int .i64 F, .slice aL L.length kL, .int .i64 s], 28)] [(b4, B), (aB, B)] [(d4, L), (aL, L)] l1 c1 a1 v) => sameVolume_same aB b4 aL d4 kB k4 kL j4 B F L s v (Nat.le_trans HN.out.1 (by decide)) (Nat.le_trans HN.out.2.1 (by decide)) (h.t aB B (by simp)) (h.t b4 B (by simp)) (h.r aL L (by simp)) (h.r d4 L (by simp)))
  go_wp2_with fail
  refine HSB.out.mono ?_
  rintro e w6 ⟨rfl, hb⟩
  have HS6 := hid (HS5.out.on hb)
  have HD7 := hid ((HD6.out.below hb).mono hb.size)
  have HB6 := hid (HB5.out.trans (hb.mono HB5.out.size))
  clear HS5 HD6 HE6 HSB hb hX hW HB5
  obtain ⟨x0, x1, x2, x3⟩ := bx4 (HS6.out.b P #[.slice aB B.length kB, .int .i64 F, .slice aL L.length kL, .int .i64 s] 28 (by simp))
  obtain ⟨y0, y1, y2, y3⟩ := bx4 (HS6.out.b Y #[.slice b4 B.length k4, .int .i64 F, .slice d4 L.length j4, .int .i64 s] 28 (by simp))
  go_wp2_with fail
  refine (HSV.out _ HS6.out).mono ?_
  rintro e w7 ⟨rfl, hb⟩
  have HS7 := hid (HS6.out.on hb)
  have HD8 := hid ((HD7.out.below hb).mono hb.size)
  have HB7 := HB6.out.trans (hb.mono HB6.out.size)
  have HO7 := hid ((HO1.out.below HB7).mono HB7.size)
  clear HS6 HD7 HB6 HB7 HSV hb x0 x1 x2 x3 y0 y1 y2 y3 HO1 hbk
  cases pk
  · go_wp2_with fail
    go_ret
    exact ⟨rfl, HS7.out.below⟩
  obtain ⟨h60, eV, eD, hDA, hgV⟩ := HV.out rfl
  have HEV := hid eV
  have HDA := hid hDA
  have HGV := hid hgV
  have hcap' := hid hcap
  clear HV eV hDA hgV hcap
  go_wp2_with fail
  go_loopw [10, 11, 12, 64] (fun kv su ba i wr => ∃ (k : Nat) (K : List Rc) (sure base : Nat) (b9 : Option Addr) (c9 : Nat), k ≤ l.length ∧ i = .int .i64 k ∧ kv = .slice b9 K.length c9 ∧ su = .int .i64 sure ∧ ba = .int .i64 base ∧ K.length ≤ k ∧ KR K sure base (runV (l.take k) (newV, [])).1 ∧ wr.ownsRow w7.heap.size 37 4 (.slice b9 K.length c9) K.length (rvals K) ∧ Below w7.heap.size w7 wr) (fun _ _ _ i _ => l.length - (intOf i).toNat)
  case atStart => exact ⟨0, [], 0, 0, none, 0, Nat.zero_le _, rfl, rfl, rfl, rfl, Nat.le_refl _, KR.new, World.ownsRow_nil _ _ _ _, Below.refl _ _⟩
  case round =>
    obtain ⟨k, K, sure, base, b9, c9, hk, rfl, rfl, rfl, rfl, hKk, hKR, hown, hbel⟩ := hrel
    have HKR := hid hKR
    have HOWN := hid hown
    have HBEL := hid hbel
    have hszr := hbel.size
    have hlo := hKR.lo
    have hhi := hKR.hi
    clear hKR hown
    by_cases hlt : k < l.length
    · obtain ⟨b', off, rfl, hb', hc⟩ := HO7.out.cell (by omega)
      obtain ⟨c0, c1', c2, c3, c4⟩ := hc k hlt
      obtain ⟨bd, od, rfl, hbd, hcd⟩ := HD8.out.cell (by omega)
      obtain ⟨hkd, edid⟩ := HDA.out k hlt
      have d0 := hcd k hkd
      rw [edid] at d0
      have x0 := (hbel.cell (p := ⟨b', off + k * 5, none⟩) hb').trans c0
      have x1 := (hbel.cell (p := ⟨b', off + k * 5 + 1, none⟩) hb').trans c1'
      have x2 := (hbel.cell (p := ⟨b', off + k * 5 + 2, none⟩) hb').trans c2
      have x3 := (hbel.cell (p := ⟨b', off + k * 5 + 3, none⟩) hb').trans c3
      have x4 := (hbel.cell (p := ⟨b', off + k * 5 + 4, none⟩) hb').trans c4
      have HNX : Hid ((runV (l.take (k + 1)) (newV, [])).1 = nextV (runV (l.take k) (newV, [])).1 l[k]) := by show _ = _; rw [run_next l k hlt]
      clear c0 c1' c2 c3 c4 hc hcd edid
      generalize (runV (l.take k) (newV, [])).1 = v at *
      generalize l[k] = o at *
      obtain ⟨ok, op, on, oD, om⟩ := o
      simp only at x0 x1 x2 x3 x4
      have gW := boxB wr (.cells #[.int .i64 ok, .int .i64 op, .int .i64 on, .string oD, .int .i64 om] 35)
      have kW := heap_last wr (.cells #[.int .i64 ok, .int .i64 op, .int .i64 on, .string oD, .int .i64 om] 35)
      have BW : Below w7.heap.size w7 (wr.alloc (.cells #[.int .i64 ok, .int .i64 op, .int .i64 on, .string oD, .int .i64 om] 35)) := hbel.trans (gW.mono hszr)
      have HOW := hid (HOWN.out.alloc (.cells #[.int .i64 ok, .int .i64 op, .int .i64 on, .string oD, .int .i64 om] 35))
      have HBW := hid BW
      have y0 : (wr.alloc (.cells #[.int .i64 ok, .int .i64 op, .int .i64 on, .string oD, .int .i64 om] 35)).cell? ⟨bd, od + k, none⟩ = _ := (BW.cell (p := ⟨bd, od + k, none⟩) hbd).trans d0
      obtain ⟨z0, z1, z2, z3, z4⟩ := bx5 kW
      clear d0 gW kW hbel HOWN HBEL BW
      generalize hW : wr.alloc (.cells #[.int .i64 ok, .int .i64 op, .int .i64 on, .string oD, .int .i64 om] 35) = wb at *
      generalize hZ : wr.heap.size = Z at *
      cases hdid : didV v ⟨ok, op, on, oD, om⟩
      · have HNV := hid (did_none hdid)
        rw [hdid] at y0
        go_wp2_with fail
        go_roundw
        case rel => exact ⟨k + 1, K, sure, base, b9, c9, by omega, by go_num, rfl, rfl, rfl, by omega, by rw [HNX.out, HNV.out]; exact HKR.out, HOW.out, HBW.out⟩
        case measure => simp [intOf]; omega
      · have HSO := hid (did_some hdid)
        rw [hdid] at y0
        clear hdid
        by_cases e4 : ok = 4
        · have HQ := hid (HKR.out.four e4 HSO.out)
          rw [← HNX.out] at HQ
          subst e4
          go_wp2_with fail
          go_roundw
          case rel => exact ⟨k + 1, K, K.length, base, b9, c9, by omega, by go_num, rfl, rfl, rfl, by omega, HQ.out, HOW.out, HBW.out⟩
          case measure => simp [intOf]; omega
        by_cases e6 : ok = 6
        · have HQ := hid (HKR.out.six e6 HSO.out)
          rw [← HNX.out] at HQ
          subst e6
          go_wp2_with fail
          go_roundw
          case rel => exact ⟨k + 1, K, sure, sure, b9, c9, by omega, by go_num, rfl, rfl, rfl, by omega, HQ.out, HOW.out, HBW.out⟩
          case measure => simp [intOf]; omega
        by_cases e5 : ok = 5
        · obtain ⟨n, hn, hle, hq⟩ := HKR.out.five e5 HSO.out
          have hn' : om = (n : Int) := hn
          have hlen : (K.take (base + n)).length = base + n := by rw [List.length_take]; omega
          have HQ := hid hq
          rw [← HNX.out] at HQ
          obtain ⟨hrun, hown⟩ := own_cut HOW.out (base + n) ((base : Int) + (n : Int)) (by omega) hle
          have HO2 := hid hown
          rw [hlen] at HO2 HQ
          have HLN := hid hlen
          subst e5 hn'
          clear hq hown hlen hn HOW HNX HSO
          go_wp2_with fail
          go_roundw
          case rel => exact ⟨k + 1, K.take (base + n), base + n, base, b9, c9, by omega, by go_num, by rw [HLN.out], by go_num, rfl, by rw [HLN.out]; omega, HQ.out, by rw [HLN.out]; exact HO2.out, HBW.out⟩
          case measure => simp [intOf]; omega
        have n4 : (ok == 4) = false := beq_false_of_ne e4
        have n5 : (ok == 5) = false := beq_false_of_ne e5
        have n6 : (ok == 6) = false := beq_false_of_ne e6
        obtain ⟨hrec, hq⟩ := HKR.out.one e4 e5 e6 HSO.out
        have HQ := hid hq
        rw [← HNX.out] at HQ
        have HRF := hid (irec_any ok op on om oD wb)
        unfold ForOut at HRF
        rw [hrec, recV_yes hrec] at HRF
        simp only at HRF
        clear hq HNX HSO HKR e4 e5 e6 hrec
        go_wp2_with fail
        refine HRF.out.mono ?_
        rintro e w9 ⟨rfl, b8⟩
        have g1 := boxB w9 (.cells #[.int .i64 ok, .int .i64 op, .int .i64 on, .string oD] 37)
        have k1 := heap_last w9 (.cells #[.int .i64 ok, .int .i64 op, .int .i64 on, .string oD] 37)
        have HBX := hid (HBW.out.trans ((b8.trans (g1.mono b8.size)).mono HBW.out.size))
        have hown9 := (rw_below HOW.out b8).alloc (.cells #[.int .i64 ok, .int .i64 op, .int .i64 on, .string oD] 37)
        obtain ⟨r0, r1, r2, r3⟩ := bx4 k1
        clear b8 g1 k1 HRF HOW HBW z0 z1 z2 z3 z4 y0 x0 x1 x2 x3 x4 hW hZ
        generalize hW : w9.alloc (.cells #[.int .i64 ok, .int .i64 op, .int .i64 on, .string oD] 37) = w10 at *
        generalize hZ : w9.heap.size = Z9 at *
        have HBA : Hid (Below w7.heap.size w7 (w10.alloc (.cells #[.int .i64 ok, .int .i64 op, .int .i64 on, .string oD] 37))) := HBX.out.trans ((boxB _ _).mono HBX.out.size)
        have hown10 := hown9.alloc (.cells #[.int .i64 ok, .int .i64 op, .int .i64 on, .string oD] 37)
        have HR1 : Rs (w10.alloc (.cells #[.int .i64 ok, .int .i64 op, .int .i64 on, .string oD] 37)).heap.size (some ⟨w10.heap.size, 0, none⟩) [opR ⟨ok, op, on, oD, om⟩] (w10.alloc (.cells #[.int .i64 ok, .int .i64 op, .int .i64 on, .string oD] 37)) := by
          have := rrow_one w10 (opR ⟨ok, op, on, oD, om⟩)
          unfold opR at this
          simp only [str_back] at this
          exact this
        obtain ⟨v', w', q1, o1, g1, -⟩ := app_rec (w10.alloc (.cells #[.int .i64 ok, .int .i64 op, .int .i64 on, .string oD] 37)) w7.heap.size (.slice b9 K.length c9) K.length (rvals K) hown10 (some ⟨w10.heap.size, 0, none⟩) 1 _ HR1 (by show K.length + 1 ≤ 10000; omega) HBA.out.size
        have hB' : Below w7.heap.size w7 w' := HBA.out.trans (below_of_grown g1 HBA.out.size (fun i hi => (hown10.lt i hi).1))
        have HB' := hid hB'
        have o2 : w'.ownsRow w7.heap.size 37 4 v' (K ++ [opR ⟨ok, op, on, oD, om⟩]).length (rvals (K ++ [opR ⟨ok, op, on, oD, om⟩])) := by
          rw [rvals_snoc, List.length_append]
          exact o1
        obtain ⟨b8, c8, rfl⟩ := rw_form o2
        have HO2 := hid o2
        have r1' : ∀ ty, (Builtin.append_ #[26, 26] ty #[.slice b9 K.length c9, .slice (some ⟨w10.heap.size, 0, none⟩) 1 1]).run Try.prog (w10.alloc (.cells #[.int .i64 ok, .int .i64 op, .int .i64 on, .string oD] 37)) = .ok _ w' := q1
        clear o1 o2 g1 q1 HR1 hown9 hown10 HBA HBX hB'
        go_wp2_with (at_builtin; refine wpList_append_run rfl (.tmp 83) (.tmp 85) 26 rfl _ _ rfl rfl _ _ r1' ?_)
        go_roundw
        case rel => exact ⟨k + 1, K ++ [opR ⟨ok, op, on, oD, om⟩], sure, base, b8, c8, by omega, by go_num, by rw [List.length_append]; rfl, rfl, rfl, by rw [List.length_append]; simp; omega, HQ.out, HO2.out, HB'.out⟩
        case measure => simp [intOf]; omega
    · obtain rfl : k = l.length := by omega
      rw [List.take_length, ← HEV.out] at HKR
      have HLG : Hid (K.drop base = L) := HKR.out.log
      have HGD := hid HKR.out.gd
      have HBL : Hid (blV B F L s = foldR K) := by
        show _ = _
        unfold blV
        rw [HGV.out]
        exact HKR.out.blocks
      obtain ⟨hck, hRs⟩ := own_rs2 HOWN.out
      obtain ⟨a8, c8, hrun, hR8⟩ := cut_high b9 c9 K base base rfl (by omega) hck hRs
      rw [HLG.out] at hrun hR8
      have HS8 : Hid (S6 w [(Y, #[.slice b4 B.length k4, .int .i64 F, .slice d4 L.length j4, .int .i64 s], 28), (P, #[.slice aB B.length kB, .int .i64 F, .slice aL L.length kL, .int .i64 s], 28)] [(b4, B), (aB, B)] [(a8, L), (b9, K), (d4, L), (aL, L)] l1 c1 a1 wr) := ((HS7.out.on HBEL.out).addR hRs).addR hR8
      have hNN : B.length ≤ 1048576 ∧ L.length ≤ 1048576 := ⟨Nat.le_trans HN.out.1 (by decide), Nat.le_trans HN.out.2.1 (by decide)⟩
      have HNN := hid hNN
      have HBI := hid (fun v (h1 : Ss v.heap.size aB B v) (h2 : Rs v.heap.size aL L v) => (iblocksV_any aB aL kB kL B F L s v hNN h1 h2).mono fun e w' h => blOut_any h)
      have HGI := hid (fun v (h1 : Ss v.heap.size aB B v) (h2 : Rs v.heap.size aL L v) => igoodV_any aB aL kB kL B F L s v hNN h1 h2)
      have HMI := hid (fun v (h1 : Ss v.heap.size aB B v) (h2 : Rs v.heap.size aL L v) => imark_any aB aL kB kL B F L s v hNN h1 h2)
      have HFO := hid (fun v (h2 : Rs v.heap.size b9 K v) => ifold_ok b9 c9 K v (by omega) HGD.out h2)
      have HDI := hid (fun v (h1 : Ss v.heap.size aB B v) (h2 : Rs v.heap.size aL L v) => (ido_any aB aL kB kL B F L s 6 0 0 0 ⟨#[]⟩ v hNN hcap'.out h1 h2).mono fun e w' h => DOut.tells h)
      have hfo := fold_of (goodV_iff.1 HGV.out)
      have HTO := hid (done_of hfo.1).2.1
      have HTB := hid ((done_of hfo.1).2.2 (Or.inr (Or.inr rfl)))
      have HTM := hid hfo.2
      have HN2 := hid (volOf_len (B := B) (F := F) (L := L) (s := s) (o := ⟨6, 0, 0, ⟨#[]⟩, 0⟩))
      rw [hfo.1] at HDI
      rw [HGV.out, HBL.out] at HBI
      rw [HGV.out] at HGI HMI
      rw [HBL.out] at HTB
      have hTl : (foldR K).length ≤ 1048576 := by rw [foldR_len]; decide
      clear hfo HKR HLG HGD HBL HOWN HBEL HS7 HO7 HD8 HDA HEV hRs hR8 hNN HGV hcap'
      generalize volOf (goDo B F L s ⟨6, 0, 0, ⟨#[]⟩, 0⟩) = V at *
      obtain ⟨B2, F2, L2, s2⟩ := V
      simp only at HDI HTO HTB HTM HN2
      generalize foldR K = T at *
      generalize markV B F L s = MV at *
      have hN2 : B2.length ≤ 1048576 ∧ L2.length ≤ 1048576 := ⟨Nat.le_trans HN2.out.1 (by decide), Nat.le_trans HN2.out.2 (by decide)⟩
      have HBX := hid (fun b d k j v (h1 : Ss v.heap.size b B2 v) (h2 : Rs v.heap.size d L2 v) => (iblocksV_any b d k j B2 F2 L2 s2 v hN2 h1 h2).mono fun e w' h => blOut_any h)
      have HMX := hid (fun b d k j v (h1 : Ss v.heap.size b B2 v) (h2 : Rs v.heap.size d L2 v) => imark_any b d k j B2 F2 L2 s2 v hN2 h1 h2)
      rw [HTO.out, HTB.out] at HBX
      rw [HTO.out, HTM.out] at HMX
      have HTL := hid hTl
      clear HTO HTB HTM HN2 hN2 hTl
      obtain ⟨x0, x1, x2, x3⟩ := bx4 (HS8.out.b P #[.slice aB B.length kB, .int .i64 F, .slice aL L.length kL, .int .i64 s] 28 (by simp))
      go_wp2_with fail
      refine (HBI.out _ (HS8.out.t aB B (by simp)) (HS8.out.r aL L (by simp))).mono ?_
      rintro e u1 ⟨q1, r1, rfl, hs, _, hb⟩
      have HS9 := hid ((HS8.out.on hb).addT hs)
      clear x0 x1 x2 x3 hs hb HS8 HBI
      go_wp2_with fail
      refine (HFO.out _ (HS9.out.r b9 K (by simp))).mono ?_
      rintro e u2 ⟨q2, r2, rfl, hs, hb⟩
      have HS10 := hid ((HS9.out.on hb).addT hs)
      clear hs hb HS9 HFO
      have HSS : Hid (∀ v, Below u2.heap.size u2 v → v.cell? ⟨P, 0, none⟩ = some (.slice aB B.length kB) ∧ v.cell? ⟨P, 1, none⟩ = some (.int .i64 F) ∧ v.cell? ⟨P, 2, none⟩ = some (.slice aL L.length kL) ∧ v.cell? ⟨P, 3, none⟩ = some (.int .i64 s)) := fun v g => bx4 ((HS10.out.on g).b P #[.slice aB B.length kB, .int .i64 F, .slice aL L.length kL, .int .i64 s] 28 (by simp))
      have HST := hid (fun v (h : S6 w [(Y, #[.slice b4 B.length k4, .int .i64 F, .slice d4 L.length j4, .int .i64 s], 28), (P, #[.slice aB B.length kB, .int .i64 F, .slice aL L.length kL, .int .i64 s], 28)] [(q2, T), (q1, T), (b4, B), (aB, B)] [(a8, L), (b9, K), (d4, L), (aL, L)] l1 c1 a1 v) => sameTexts_same q1 q2 r1 r2 T v HTL.out (h.t q1 T (by simp)) (h.t q2 T (by simp)))
      have HSR := hid (fun v (h : S6 w [(Y, #[.slice b4 B.length k4, .int .i64 F, .slice d4 L.length j4, .int .i64 s], 28), (P, #[.slice aB B.length kB, .int .i64 F, .slice aL L.length kL, .int .i64 s], 28)] [(q2, T), (q1, T), (b4, B), (aB, B)] [(a8, L), (b9, K), (d4, L), (aL, L)] l1 c1 a1 v) => sameRecords_same aL a8 kL c8 L v HNN.out.2 (h.r aL L (by simp)) (h.r a8 L (by simp)))
      have BD : Below u2.heap.size u2 u2.drew := (Below.refl _ _).drew
      go_upto_region 31 with fail
      go_cut [140] (fun s140 wc => s140 = .bool false ∧ S6 w [(Y, #[.slice b4 B.length k4, .int .i64 F, .slice d4 L.length j4, .int .i64 s], 28), (P, #[.slice aB B.length kB, .int .i64 F, .slice aL L.length kL, .int .i64 s], 28)] [(q2, T), (q1, T), (b4, B), (aB, B)] [(a8, L), (b9, K), (d4, L), (aL, L)] l1 c1 a1 wc)
      case first =>
        have d0 := HSS.out _ BD
        go_region_held (fun v => v.cell? ⟨P, 0, none⟩ = some (.slice aB B.length kB) ∧ v.cell? ⟨P, 1, none⟩ = some (.int .i64 F) ∧ v.cell? ⟨P, 2, none⟩ = some (.slice aL L.length kL) ∧ v.cell? ⟨P, 3, none⟩ = some (.int .i64 s)) (first | exact HSS.out _ (by with_reducible assumption)) (first | (go_at_call 13; refine (HGI.out _ ((HS10.out.on BD).t aB B (by simp)) ((HS10.out.on BD).r aL L (by simp))).mono ?_; rintro e u3 ⟨rfl, b3⟩; have B3 : Below u2.heap.size u2 u3 := BD.trans (b3.mono BD.size)) | (go_at_call 15; refine (HSR.out _ (HS10.out.on B4)).mono ?_; rintro e u5 ⟨rfl, b5⟩; have B5 : Below u2.heap.size u2 u5 := B4.trans (b5.mono B4.size)) | (go_at_call 14; refine (HST.out _ (HS10.out.on B3)).mono ?_; rintro e u4 ⟨rfl, b4'⟩; have B4 : Below u2.heap.size u2 u4 := B3.trans (b4'.mono B3.size)))
        all_goals
          have HS11 := hid (HS10.out.on B5)
          go_wp2_with fail
          go_meet
          case rel => exact ⟨rfl, HS11.out⟩
      case rest =>
        obtain ⟨rfl, hcut⟩ := hcut
        have HS11 := hid hcut
        clear hcut HSS BD HST HSR HS10 HGI hrun
        obtain ⟨x0, x1, x2, x3⟩ := bx4 (HS11.out.b P #[.slice aB B.length kB, .int .i64 F, .slice aL L.length kL, .int .i64 s] 28 (by simp))
        go_wp2_with fail
        refine (HDI.out _ (HS11.out.t aB B (by simp)) (HS11.out.r aL L (by simp))).mono ?_
        rintro e u6 ⟨b5, k5, d5, j5, rfl, o5, hb⟩
        have HS12 := hid (HS11.out.on hb)
        have HR5 := hid o5.read
        clear x0 x1 x2 x3 o5 hb HS11 HDI
        (try simp only at HR5)
        have HS13 := hid (((HS12.out.addT HR5.out.1).addR HR5.out.2).box #[.slice b5 B2.length k5, .int .i64 F2, .slice d5 L2.length j5, .int .i64 s2] 28)
        generalize hX : u6.heap.size = X at HS13
        generalize hW : u6.alloc (.cells #[.slice b5 B2.length k5, .int .i64 F2, .slice d5 L2.length j5, .int .i64 s2] 28) = u7 at *
        clear HS12 HR5
        obtain ⟨x0, x1, x2, x3⟩ := bx4 (HS13.out.b X #[.slice b5 B2.length k5, .int .i64 F2, .slice d5 L2.length j5, .int .i64 s2] 28 (by simp))
        go_wp2_with fail
        refine (HBX.out _ _ _ _ _ (HS13.out.t b5 B2 (by simp)) (HS13.out.r d5 L2 (by simp))).mono ?_
        rintro e u8 ⟨q3, r3, rfl, hs, _, hb⟩
        have HS14 := hid ((HS13.out.on hb).addT hs)
        clear x0 x1 x2 x3 hb hs HS13 HBX hX hW
        obtain ⟨x0, x1, x2, x3⟩ := bx4 (HS14.out.b P #[.slice aB B.length kB, .int .i64 F, .slice aL L.length kL, .int .i64 s] 28 (by simp))
        go_wp2_with fail
        refine (HMI.out _ (HS14.out.t aB B (by simp)) (HS14.out.r aL L (by simp))).mono ?_
        rintro e u9 ⟨rfl, hb⟩
        have HS15 := hid (HS14.out.on hb)
        clear x0 x1 x2 x3 hb HS14 HMI
        obtain ⟨x0, x1, x2, x3⟩ := bx4 (HS15.out.b X #[.slice b5 B2.length k5, .int .i64 F2, .slice d5 L2.length j5, .int .i64 s2] 28 (by simp))
        go_wp2_with fail
        refine (HMX.out _ _ _ _ _ (HS15.out.t b5 B2 (by simp)) (HS15.out.r d5 L2 (by simp))).mono ?_
        rintro e u10 ⟨rfl, hb⟩
        have HS16 := hid (HS15.out.on hb)
        clear x0 x1 x2 x3 hb HS15 HMX
        have HST := hid (sameTexts_same q3 q1 r3 r1 T u10 HTL.out (HS16.out.t q3 T (by simp)) (HS16.out.t q1 T (by simp)))
        go_wp2_with fail
        refine HST.out.mono ?_
        rintro e u11 ⟨rfl, hb⟩
        have HS17 := hid (HS16.out.on hb)
        clear hb HS16 HST
        go_wp2_with fail
        go_ret
        exact ⟨rfl, HS17.out.below⟩
set_option maxHeartbeats 400000 in
theorem volume_big (l1 c1 : Nat) (a1 : Option Addr) (w : World) (h1 : l1 ≤ 4611686018427387903) (h12 : ¬ l1 ≤ 1048576) :
    Calls Try.prog 3 #[.slice a1 l1 c1] w fun e w' => e = .returned (.bool true) ∧ Below w.heap.size w w' := by
  have hd : decide ((1048576 : Int) < (l1 : Int)) = true := by simp; omega
  go_enter Try.func3, Try.ntmps3
  go_wp2_with fail
  go_ret
  exact ⟨rfl, Below.refl _ _⟩
end Go.Proofs.Ytlbhfgcpflhccaa
namespace Go.Proofs.Ytlbhfgcpflhccaa.fnVolume
open Go.ChangeShapes Go.WideShapes Go.ChangeAt Go.RowKit
set_option maxRecDepth 100000
theorem own : ownKnob Try.prog.godebug = none := by kernel_rfl
theorem laidOut : laidOutB Try.prog = true := by kernel_rfl
theorem cells5 : Try.prog.cellsOf 5 = 1 := by kernel_rfl
theorem bytes5 : Try.prog.bytesOf 5 = 1 := by kernel_rfl
theorem lifted (os : Go.Os) (started : os.Started) (H : Type) (enc : TypeId × Value → H) :
    ReturnsInHanded {} Try.checked os 3 .any (Rows.fnVolumeSpec.pre6 enc Try.prog Try.f3 Rows.fnVolumeRow.domain false) (Rows.fnVolumeSpec.post enc Try.prog Try.f3 false true false false) := by
  refine returnsInHanded_of_change_sized (C := Try.checked) own started (by kernel_rfl) Try.func3
    (ChangeSpec.witness6 (enc := enc) (C := Try.checked) false ⟨#[], #[.slice none 0 0], []⟩ 8 (by kernel_rfl) (by kernel_rfl) (by kernel_rfl) (by kernel_rfl)) ?_
  intro W base args ds gs before hval0 hW hcnd hsz _
  have hval : ∀ (j : Nat) t v, Try.f3.params[j]? = some t → args[j]? = some v → Value.okWide Try.prog W .any base t v := hval0
  have hW' := hW
  obtain ⟨p, q, hA0, hV, rfl, hfz, hnd⟩ := hW
  have hA : DataW.TrodAll enc Try.prog W 0 (fun _ => true) true Try.f3.params.toList args.toList ds p := hA0
  rw [Try.params3] at hA hval
  obtain ⟨v0, vs0, d0, ds0, p0, q0, hargs, rfl, rfl, h0, r0⟩ := trodAll_cons hA
  obtain ⟨rfl, rfl, rfl⟩ := trodAll_nil r0
  obtain rfl : args = #[v0] := by cases args; simp_all
  obtain ⟨rfl, rfl⟩ := trodVars_none hV
  obtain ⟨a0, l0, c0, rfl⟩ := okWide_slice Try.underlying22 (hval 0 22 v0 rfl rfl)
  obtain ⟨e0, k0⟩ := code_of Try.underlying22 Try.underlying5 cells5 h0
  have b0 : l0 ≤ 4611686018427387903 := by
    rcases e0 with rfl | ⟨zs, z1, z2, rfl⟩
    · omega
    · exact code_len (j := 0) (t := 22) hsz z1 z2 rfl rfl Try.underlying22 bytes5
  clear hA0 hval0
  have walk : Calls Try.prog 3 #[.slice a0 l0 c0] W fun e w' => e = .returned (.bool true) ∧ Below W.heap.size W w' := by
    by_cases hs : l0 ≤ 1048576
    · exact volume_small l0 c0 a0 W hs (k0 (by omega))
    · exact volume_big l0 c0 a0 W b0 hs
  refine walk.mono fun e W' ⟨he, hg⟩ => ?_
  subst he
  exact ⟨_, rfl, law_post laidOut (by kernel_rfl) (by kernel_rfl) rfl (trodAll_mk1 (shut_bool Try.underlying4 _)) hW' hg⟩
end Go.Proofs.Ytlbhfgcpflhccaa.fnVolume
namespace Go.Proofs.Ytlbhfgcpflhccaa
open Go.ChangeShapes Go.WideShapes Go.ChangeAt Go.RowKit
theorem fnVolume_said : Rows.FnVolumeSaid :=
  OpenClaim.holds_of_wide 3 Try.f3 rfl rfl rfl rfl rfl rfl rfl ⟨rfl, rfl, rfl, rfl, rfl⟩ rfl rfl rfl rfl rfl (by kernel_rfl) Try.func3 (by kernel_rfl)
    (of_decide_eq_true (by kernel_rfl)) (by unfold Func.isWrapper; first | (rw [if_pos (by decide +kernel)]; kernel_rfl) | (rw [if_neg (by decide +kernel)]; exact ⟨rfl, rfl⟩))
    (fun os started H enc _ => fnVolume.lifted os started H enc)
end Go.Proofs.Ytlbhfgcpflhccaa
