/- At every list of ops impl.PlayVolume answers as the model of chapter 6, in memory of its own, and the list reads afterwards as it read before: laws.FnExactPlayVolume, at every input; no condition. -/
import Derived.Test.YtlaafcmfddidnaaMPla
import Derived.Test.YtlaafcmfddidnaaMSdo
import Derived.Test.YtlaafcmfddidnaaRows
import Derived.Test.YtlaafcmfddidnaaFrame
import Derived.Test.YtlaafcmfddidnaaVOpen
namespace Go.Proofs.Ytlaafcmfddidnaa
set_option maxRecDepth 100000
open Go Go.ChangeShapes Go.WideShapes Go.ChangeAt Go.RowKit G00541
/-- what the model's play keeps -/
structure MP (w : World) (X : Nat) (v : Vol) (aB : Option Addr) (kB : Nat) (aL : Option Addr) (kL : Nat) (dv : Value) (d : List Bool) (wr : World) : Prop where
  be : Below w.heap.size w wr
  bz : wr.heap[w.heap.size]? = some (.cells #[.slice none 0 0, .int .i64 0, .slice none 0 0, .int .i64 0] 27)
  bv : wr.heap[X]? = some (.cells #[.slice aB v.1.length kB, .int .i64 v.2.1, .slice aL v.2.2.1.length kL, .int .i64 v.2.2.2] 27)
  ss : Ss wr.heap.size aB v.1 wr
  rs : Rs wr.heap.size aL v.2.2.1 wr
  tb : TB (X + 1) dv d wr
  wx : w.heap.size < X
theorem MP.on {w : World} {X : Nat} {v : Vol} {aB : Option Addr} {kB : Nat} {aL : Option Addr} {kL : Nat} {dv : Value} {d : List Bool} {wr w' : World} (h : MP w X v aB kB aL kL dv d wr) (g : Below wr.heap.size wr w') : MP w X v aB kB aL kL dv d w' :=
  ⟨h.be.trans (g.mono h.be.size), (g.block _ (kboxV h.bz)).trans h.bz, (g.block _ (kboxV h.bv)).trans h.bv, (h.ss.below g).mono g.size, (h.rs.below g).mono g.size, h.tb.below g, h.wx⟩
/-- one truth value is appended -/
theorem MP.push {w : World} {X : Nat} {v : Vol} {aB : Option Addr} {kB : Nat} {aL : Option Addr} {kL : Nat} {dv : Value} {d : List Bool} {wr : World} (h : MP w X v aB kB aL kL dv d wr) (b : Bool) (hm : d.length + 1 ≤ 10000) :
    ∃ v' w', (∀ ty, (Builtin.append_ #[28, 28] ty #[dv, .slice (some ⟨wr.heap.size, 0, none⟩) 1 1]).run Try.prog (wr.alloc (.cells #[.bool b] 4)) = .ok v' w') ∧ MP w X v aB kB aL kL v' (d ++ [b]) w' := by
  have hX := kboxV h.bv
  obtain ⟨v', w', r, ht, hg, ho⟩ := h.tb.push (by omega) b hm
  have gb := boxB wr (.cells #[.bool b] 4)
  have h1 := h.on gb
  have hlt : ∀ k, dv.ownBlock = some k → X + 1 ≤ k := fun k hk => (World.ownsRow.lt h.tb.row k hk).1
  have hk : ∀ q, q < (wr.alloc (.cells #[.bool b] 4)).heap.size → q ≤ X → w'.heap[q]? = (wr.alloc (.cells #[.bool b] 4)).heap[q]? := fun q h2 h3 => hg.block q h2 (fun e => by have := hlt q e.symm; omega)
  have hX1 := kboxV h1.bv
  have hwx := h.wx
  refine ⟨v', w', r, ⟨?_, (hk _ (kboxV h1.bz) (by omega)).trans h1.bz, (hk _ hX1 (Nat.le_refl _)).trans h1.bv, ss_apart h1.tb h1.ss (Nat.le_refl _) hg, rs_apart h1.tb h1.rs (Nat.le_refl _) hg, ht, hwx⟩⟩
  exact ⟨hg.os.trans h1.be.os, hg.tape.trans h1.be.tape, hg.output.trans h1.be.output, Nat.le_trans h1.be.size hg.size, fun q hq => (hk q (Nat.lt_of_lt_of_le hq h1.be.size) (by omega)).trans (h1.be.block q hq)⟩
/-- another volume is put into its box -/
theorem MP.put {w : World} {X : Nat} {v : Vol} {aB : Option Addr} {kB : Nat} {aL : Option Addr} {kL : Nat} {dv : Value} {d : List Bool} {wr : World} (h : MP w X v aB kB aL kL dv d wr) (u : Vol) (b1 : Option Addr) (j1 : Nat) (b2 : Option Addr) (j2 : Nat) (hs : Ss wr.heap.size b1 u.1 wr) (hr : Rs wr.heap.size b2 u.2.2.1 wr) :
    MP w X u b1 j1 b2 j2 dv d ((((wr.setCell ⟨X, 0, none⟩ (.slice b1 u.1.length j1)).setCell ⟨X, 1, none⟩ (.int .i64 u.2.1)).setCell ⟨X, 2, none⟩ (.slice b2 u.2.2.1.length j2)).setCell ⟨X, 3, none⟩ (.int .i64 u.2.2.2)) := by
  have hX := kboxV h.bv
  have hwx := h.wx
  have hk : ∀ q, q ≠ X → ((((wr.setCell ⟨X, 0, none⟩ (.slice b1 u.1.length j1)).setCell ⟨X, 1, none⟩ (.int .i64 u.2.1)).setCell ⟨X, 2, none⟩ (.slice b2 u.2.2.1.length j2)).setCell ⟨X, 3, none⟩ (.int .i64 u.2.2.2)).heap[q]? = wr.heap[q]? := fun q h1 => by
    rw [keepB _ _ _ _ _ h1, keepB _ _ _ _ _ h1, keepB _ _ _ _ _ h1, keepB _ _ _ _ _ h1]
  have hz : ((((wr.setCell ⟨X, 0, none⟩ (.slice b1 u.1.length j1)).setCell ⟨X, 1, none⟩ (.int .i64 u.2.1)).setCell ⟨X, 2, none⟩ (.slice b2 u.2.2.1.length j2)).setCell ⟨X, 3, none⟩ (.int .i64 u.2.2.2)).heap.size = wr.heap.size := by simp [World.setCell]
  have hc : ∀ R o, R ≠ X → ((((wr.setCell ⟨X, 0, none⟩ (.slice b1 u.1.length j1)).setCell ⟨X, 1, none⟩ (.int .i64 u.2.1)).setCell ⟨X, 2, none⟩ (.slice b2 u.2.2.1.length j2)).setCell ⟨X, 3, none⟩ (.int .i64 u.2.2.2)).cell? ⟨R, o, none⟩ = wr.cell? ⟨R, o, none⟩ := fun R o hR => by unfold World.cell?; simp only [hk R hR]
  refine ⟨setB (setB (setB (setB h.be _ _ (by omega) _) _ _ (by omega) _) _ _ (by omega) _) _ _ (by omega) _, (hk _ (by omega)).trans h.bz, ?_, ?_, ?_, h.tb.keep (fun k hk' => hk k (by have := (World.ownsRow.lt h.tb.row k hk').1; omega)), hwx⟩
  · have := box_set (box_set (box_set (box_set h.bv 0 (.slice b1 u.1.length j1)) 1 (.int .i64 u.2.1)) 2 (.slice b2 u.2.2.1.length j2)) 3 (.int .i64 u.2.2.2)
    simpa using this
  · refine ⟨fun h0 => ?_⟩
    obtain ⟨R, off, e, hR, hcc⟩ := GSl.cell hs h0
    have hne : R ≠ X := fun e2 => by
      subst e2
      have h1 := hcc 0 h0 0 (by decide)
      rw [List.getElem_map, box_cell h.bv] at h1
      rcases (show off = 0 ∨ off = 1 ∨ off = 2 ∨ off = 3 ∨ 4 ≤ off by omega) with r | r | r | r | r
      · subst r; simp [scell] at h1
      · subst r; simp [scell] at h1
      · subst r; simp [scell] at h1
      · subst r; simp [scell] at h1
      · rw [Array.getElem?_eq_none (by simp; omega)] at h1; simp [scell] at h1
    refine ⟨R, off, e, by rw [hz]; exact hR, fun i hi j hj => ?_⟩
    rw [hc _ _ hne]
    exact hcc i hi j hj
  · refine ⟨fun h0 => ?_⟩
    obtain ⟨R, off, e, hR, hcc⟩ := GSl.cell hr h0
    have hne : R ≠ X := fun e2 => by
      subst e2
      have h1 := hcc 0 h0 3 (by decide)
      rw [List.getElem_map, box_cell h.bv] at h1
      rcases (show off = 0 ∨ 1 ≤ off by omega) with r | r
      · subst r; simp [rcells] at h1
      · rw [Array.getElem?_eq_none (by simp; omega)] at h1; simp [rcells] at h1
    refine ⟨R, off, e, by rw [hz]; exact hR, fun i hi j hj => ?_⟩
    rw [hc _ _ hne]
    exact hcc i hi j hj
/-- l6Do's answer in one form -/
theorem SdOut.uni {P : Nat → Prop} {a1 : Option Addr} {n1 c1 : Nat} {F : Int} {a2 : Option Addr} {n2 c2 : Nat} {s : Int} {o : Option Vol} {w : World} {e : Ending} {w' : World} (h : SdOut P (.agg #[.slice a1 n1 c1, .int .i64 F, .slice a2 n2 c2, .int .i64 s]) o w e w') :
    ∃ b1 m1 j1 f b2 m2 j2 s9, e = .returned (.tuple #[.agg #[.slice b1 m1 j1, .int .i64 f, .slice b2 m2 j2, .int .i64 s9], .bool o.isSome]) ∧ Kp P w w' ∧ (∀ u : Vol, o = some u → m1 = u.1.length ∧ f = u.2.1 ∧ m2 = u.2.2.1.length ∧ s9 = u.2.2.2 ∧ Ss w'.heap.size b1 u.1 w' ∧ Rs w'.heap.size b2 u.2.2.1 w') := by
  cases o with
  | none => obtain ⟨h1, h2⟩ := h; exact ⟨_, _, _, _, _, _, _, _, h1, h2, fun u hu => by cases hu⟩
  | some v =>
    obtain ⟨aB, kB, aL, kL, h1, h2, h3, h4⟩ := h
    exact ⟨_, _, _, _, _, _, _, _, h1, h4, fun u hu => by cases hu; exact ⟨rfl, rfl, rfl, rfl, h2, h3⟩⟩
/-- nothing that was there at wo has turned -/
def BW (wo W : World) : Prop := Below wo.heap.size wo W
theorem BW.on {wo W W' : World} (h : BW wo W) (g : Below W.heap.size W W') : BW wo W' := Below.trans h (g.mono (Below.size h))
theorem BW.size {wo W : World} (h : BW wo W) : wo.heap.size ≤ W.heap.size := Below.size h
theorem BW.kp {P : Nat → Prop} {wo W W' : World} (h : BW wo W) (g : Kp P W W') (hP : ∀ q, P q → wo.heap.size ≤ q) : BW wo W' := Below.trans h (g.below _ hP (Below.size h))
set_option maxHeartbeats 2500000 in
theorem splay_yes (a : Option Addr) (cap : Nat) (l : List Op) (w : World) (hn : l.length ≤ 60) (hZ : Os w.heap.size a l w) :
    Calls Try.prog 5 #[.slice a l.length cap] w fun e w' => POut (runV l (newV, [])).1 (runV l (newV, [])).2 true w e w' := by
  have hd60 : decide ((60 : Int) < (l.length : Int)) = false := decide_eq_false (by omega)
  have g0 := boxB w (.cells #[.slice none 0 0, .int .i64 0, .slice none 0 0, .int .i64 0] 27)
  have k0 := heap_last w (.cells #[.slice none 0 0, .int .i64 0, .slice none 0 0, .int .i64 0] 27)
  have z0 := heap_size w (.cells #[.slice none 0 0, .int .i64 0, .slice none 0 0, .int .i64 0] 27)
  generalize hW0 : w.alloc (.cells #[.slice none 0 0, .int .i64 0, .slice none 0 0, .int .i64 0] 27) = w0 at *
  have HG0 := hid g0
  have HK0 := hid k0
  have HZ0 := hid z0
  have HZ := hid hZ
  clear g0 k0 z0 hZ
  go_enter Try.func5, Try.ntmps5
  go_wp2_with fail
  refine (snew_any _).mono ?_
  rintro e w1 ⟨b, c, rfl, o1, g1⟩
  have gX := boxB w1 (.cells #[.slice b 16 c, .int .i64 0, .slice none 0 0, .int .i64 0] 27)
  have kX := heap_last w1 (.cells #[.slice b 16 c, .int .i64 0, .slice none 0 0, .int .i64 0] 27)
  have HP : Hid (MP w w1.heap.size newV b c none 0 (.slice none 0 0) [] (w1.alloc (.cells #[.slice b 16 c, .int .i64 0, .slice none 0 0, .int .i64 0] 27))) := by
    have hz0 := HZ0.out
    have hs1 := g1.size
    have g2 := HG0.out.trans (g1.mono HG0.out.size)
    refine ⟨g2.trans (gX.mono g2.size), (gX.block _ (by omega)).trans ((g1.block _ (by omega)).trans HK0.out), kX, ?_, ?_, TB.nil _ _, by omega⟩
    · exact ((o1.below gX).read).1
    · exact ((o1.below gX).read).2
  clear g1 o1 gX kX HG0 HK0
  go_wp2_with fail
  generalize w1.alloc (.cells #[.slice b 16 c, .int .i64 0, .slice none 0 0, .int .i64 0] 27) = wm at *
  generalize hXX : w1.heap.size = X at *
  clear hXX
  go_loopw [6, 18] (fun dd i wr => ∃ (k : Nat) (aB : Option Addr) (kB : Nat) (aL : Option Addr) (kL : Nat) (dv : Value), k ≤ l.length ∧ i = .int .i64 k ∧ dd = dv ∧ MP w X (runV (l.take k) (newV, [])).1 aB kB aL kL dv (runV (l.take k) (newV, [])).2 wr) (fun _ i _ => l.length - (intOf i).toNat)
  case atStart => exact ⟨0, _, _, _, _, _, Nat.zero_le _, rfl, rfl, HP.out⟩
  case round =>
    clear HP
    obtain ⟨k, aB, kB, aL, kL, dv, hk, rfl, hdv0, hP⟩ := hrel
    obtain rfl := hdv0.symm
    by_cases hlt : k < l.length
    · obtain ⟨b', off, rfl, hb', hc⟩ := HZ.out.cell (by omega)
      obtain ⟨c0, c1, c2, c3, c4⟩ := hc k hlt
      have x0 := (hP.be.cell (p := ⟨b', off + k * 5, none⟩) hb').trans c0
      have x1 := (hP.be.cell (p := ⟨b', off + k * 5 + 1, none⟩) hb').trans c1
      have x2 := (hP.be.cell (p := ⟨b', off + k * 5 + 2, none⟩) hb').trans c2
      have x3 := (hP.be.cell (p := ⟨b', off + k * 5 + 3, none⟩) hb').trans c3
      have x4 := (hP.be.cell (p := ⟨b', off + k * 5 + 4, none⟩) hb').trans c4
      have HSN : Hid (runV (l.take (k + 1)) (newV, []) = (nextV (runV (l.take k) (newV, [])).1 l[k], (runV (l.take k) (newV, [])).2 ++ [didV (runV (l.take k) (newV, [])).1 l[k]])) := by
        show _ = _
        rw [List.take_succ_eq_append_getElem hlt, runV_snoc]
      have HDL : Hid ((runV (l.take k) (newV, [])).2.length + 1 ≤ 10000) := by show _ ≤ _; rw [runV_len, List.length_take]; simp; omega
      have HGD := hid (runV_good (l.take k) (newV, []) GoodVol.new)
      clear hc c0 c1 c2 c3 c4
      generalize (runV (l.take k) (newV, [])).1 = v at *
      generalize (runV (l.take k) (newV, [])).2 = d at *
      generalize hop : l[k] = o at *
      obtain ⟨o0, o1, o2, o3, o4⟩ := o
      simp only at x0 x1 x2 x3 x4
      have h16 := goodBs_len HGD.out.bs
      have h40 := HGD.out.len
      have gO := boxB wr (.cells #[.int .i64 o0, .int .i64 o1, .int .i64 o2, .string o3, .int .i64 o4] 44)
      have kO := heap_last wr (.cells #[.int .i64 o0, .int .i64 o1, .int .i64 o2, .string o3, .int .i64 o4] 44)
      generalize hWO : wr.alloc (.cells #[.int .i64 o0, .int .i64 o1, .int .i64 o2, .string o3, .int .i64 o4] 44) = wo at *
      have hPo := hP.on gO
      have HPo := hid hPo
      have hOl := kboxV kO
      have HOW : Hid (∀ v', BW wo v' → Calls Try.prog 19 #[.agg #[.slice aB v.1.length kB, .int .i64 v.2.1, .slice aL v.2.2.1.length kL, .int .i64 v.2.2.2]] v' fun e w' => CpOut v.1 v.2.1 v.2.2.1 v.2.2.2 v' e w') := fun v' g => l6Own_any aB aL kB kL v.1 v.2.1 v.2.2.1 v.2.2.2 v' (by omega) (by omega) ((hPo.ss.below g).mono (Below.size g)) ((hPo.rs.below g).mono (Below.size g))
      have HDO : Hid (∀ v' (lo mid : Nat) (a1 : Option Addr) (c1 : Nat) (a2 : Option Addr) (c2 : Nat), OV lo mid a1 c1 v.1 a2 c2 v.2.2.1 v' → Calls Try.prog 18 #[.agg #[.slice a1 v.1.length c1, .int .i64 v.2.1, .slice a2 v.2.2.1.length c2, .int .i64 v.2.2.2], .agg #[.int .i64 o0, .int .i64 o1, .int .i64 o2, .string o3, .int .i64 o4]] v' fun e w' => ∃ b1 m1 j1 f b2 m2 j2 s9, e = .returned (.tuple #[.agg #[.slice b1 m1 j1, .int .i64 f, .slice b2 m2 j2, .int .i64 s9], .bool (didV v ⟨o0, o1, o2, o3, o4⟩)]) ∧ Kp (volP a1 c1 v.1.length a2 c2 v.2.2.1.length) v' w' ∧ (∀ u : Vol, doV v.1 v.2.1 v.2.2.1 v.2.2.2 ⟨o0, o1, o2, o3, o4⟩ = some u → m1 = u.1.length ∧ f = u.2.1 ∧ m2 = u.2.2.1.length ∧ s9 = u.2.2.2 ∧ Ss w'.heap.size b1 u.1 w' ∧ Rs w'.heap.size b2 u.2.2.1 w')) := fun v' lo mid a1 c1 a2 c2 h => (l6Do_any lo mid a1 a2 c1 c2 v.1 v.2.1 v.2.2.1 v.2.2.2 o0 o1 o2 o4 o3 v' h HGD.out).mono fun e w' h => h.uni
      have HS : Hid (∀ v', BW wo v' → (v'.cell? ⟨X, 0, none⟩ = some (.slice aB v.1.length kB) ∧ v'.cell? ⟨X, 1, none⟩ = some (.int .i64 v.2.1) ∧ v'.cell? ⟨X, 2, none⟩ = some (.slice aL v.2.2.1.length kL) ∧ v'.cell? ⟨X, 3, none⟩ = some (.int .i64 v.2.2.2)) ∧ v'.cell? ⟨wr.heap.size, 0, none⟩ = some (.int .i64 o0) ∧ v'.cell? ⟨wr.heap.size, 1, none⟩ = some (.int .i64 o1) ∧ v'.cell? ⟨wr.heap.size, 2, none⟩ = some (.int .i64 o2) ∧ v'.cell? ⟨wr.heap.size, 3, none⟩ = some (.string o3) ∧ v'.cell? ⟨wr.heap.size, 4, none⟩ = some (.int .i64 o4)) := fun v' g0 => by
        have g : Below wo.heap.size wo v' := g0
        have e1 := (g.block _ (kboxV hPo.bv)).trans hPo.bv
        have e2 := (g.block _ hOl).trans kO
        exact ⟨⟨box_cell e1 0, box_cell e1 1, box_cell e1 2, box_cell e1 3⟩, box_cell e2 0, box_cell e2 1, box_cell e2 2, box_cell e2 3, box_cell e2 4⟩
      generalize hgo : (⟨o0, o1, o2, o3, o4⟩ : Op) = oo at *
      have HGO := hid hgo
      obtain ⟨dd, hdd⟩ : ∃ dd, didV v oo = dd := ⟨_, rfl⟩
      rw [hdd] at HDO HSN
      have HDD := hid hdd
      clear hdd
      clear hP hPo gO kO hop hgo h16 h40
      go_upto_region 8 with fail
      go_cut [9, 10] (fun s9' s10 wc => ∃ (Q : Nat) (b1 : Option Addr) (m1 j1 : Nat) (f : Int) (b2 : Option Addr) (m2 j2 : Nat) (s9 : Int), s9' = .pointer (some ⟨Q, 0, none⟩) ∧ s10 = .bool dd ∧ wc.heap[Q]? = some (.cells #[.slice b1 m1 j1, .int .i64 f, .slice b2 m2 j2, .int .i64 s9] 27) ∧ BW wo wc ∧ (∀ u : Vol, doV v.1 v.2.1 v.2.2.1 v.2.2.2 oo = some u → m1 = u.1.length ∧ f = u.2.1 ∧ m2 = u.2.2.1.length ∧ s9 = u.2.2.2 ∧ Ss wc.heap.size b1 u.1 wc ∧ Rs wc.heap.size b2 u.2.2.1 wc))
      case first =>
        as_aux_lemma =>
          have A0 : BW wo wo.drew := (Below.refl _ _).drew
          have A0a : BW wo (wo.alloc (.cells #[.slice none 0 0, .int .i64 0, .slice none 0 0, .int .i64 0] 27)).drew := (boxB wo _).drew
          have hz1 : (wo.alloc (.cells #[.slice none 0 0, .int .i64 0, .slice none 0 0, .int .i64 0] 27)).drew.heap.size = wo.heap.size + 1 := heap_size wo _
          obtain ⟨⟨y0, y1, y2, y3⟩, p0, p1, p2, p3, p4⟩ := HS.out _ A0
          obtain ⟨⟨ya0, ya1, ya2, ya3⟩, pa0, pa1, pa2, pa3, pa4⟩ := HS.out _ A0a
          go_region_held (fun v' => (v'.cell? ⟨X, 0, none⟩ = some (.slice aB v.1.length kB) ∧ v'.cell? ⟨X, 1, none⟩ = some (.int .i64 v.2.1) ∧ v'.cell? ⟨X, 2, none⟩ = some (.slice aL v.2.2.1.length kL) ∧ v'.cell? ⟨X, 3, none⟩ = some (.int .i64 v.2.2.2)) ∧ v'.cell? ⟨wr.heap.size, 0, none⟩ = some (.int .i64 o0) ∧ v'.cell? ⟨wr.heap.size, 1, none⟩ = some (.int .i64 o1) ∧ v'.cell? ⟨wr.heap.size, 2, none⟩ = some (.int .i64 o2) ∧ v'.cell? ⟨wr.heap.size, 3, none⟩ = some (.string o3) ∧ v'.cell? ⟨wr.heap.size, 4, none⟩ = some (.int .i64 o4)) (first | exact HS.out _ (by with_reducible assumption)) (first | (go_at_call 19; refine (HOW.out _ (by first | with_reducible exact A0 | with_reducible exact A0a)).mono ?_; rintro e w3 ⟨mid, a1, c1, a2, c2, rfl, hov, b3⟩; have hs3 := b3.size; have hvp := hov.volP; have hlv : ∀ q, volP a1 c1 v.1.length a2 c2 v.2.2.1.length q → wo.heap.size ≤ q := fun q hq => Nat.le_trans (by first | with_reducible exact A0.size | with_reducible exact A0a.size) (hvp q hq).1; have A3 : BW wo w3 := (by first | with_reducible exact A0.on b3 | with_reducible exact A0a.on b3); (try (have q3 : w3.heap[wo.heap.size]? = some (.cells #[.slice none 0 0, .int .i64 0, .slice none 0 0, .int .i64 0] 27) := (b3.block _ (show wo.heap.size < (wo.alloc (.cells #[.slice none 0 0, .int .i64 0, .slice none 0 0, .int .i64 0] 27)).heap.size by simp)).trans (heap_last wo _))); have A3a : BW wo (w3.alloc (.cells #[.slice none 0 0, .int .i64 0, .slice none 0 0, .int .i64 0] 27)) := A3.on (boxB w3 _)) | (go_at_call 18; refine (HDO.out _ _ _ _ _ _ _ (by first | with_reducible exact hov | with_reducible exact hov.below (boxB _ _))).mono ?_; rintro e w4 ⟨b1, m1, j1, f, b2, m2, j2, s9, rfl, k4, hu4⟩; have hs4 := k4.size; have A4 : BW wo w4 := (by first | with_reducible exact A3.kp k4 hlv | with_reducible exact A3a.kp k4 hlv); have A4a : BW wo (w4.alloc (.cells #[.slice none 0 0, .int .i64 0, .slice none 0 0, .int .i64 0] 27)) := A4.on (boxB w4 _); have A4b : BW wo (w4.alloc (.cells #[.slice b1 m1 j1, .int .i64 f, .slice b2 m2 j2, .int .i64 s9] 27)) := A4.on (boxB w4 _); have A4c : BW wo ((((w4.setCell ⟨wo.heap.size, 0, none⟩ (.slice b1 m1 j1)).setCell ⟨wo.heap.size, 1, none⟩ (.int .i64 f)).setCell ⟨wo.heap.size, 2, none⟩ (.slice b2 m2 j2)).setCell ⟨wo.heap.size, 3, none⟩ (.int .i64 s9)) := setB (setB (setB (setB A4 wo.heap.size 0 (Nat.le_refl _) (.slice b1 m1 j1)) wo.heap.size 1 (Nat.le_refl _) (.int .i64 f)) wo.heap.size 2 (Nat.le_refl _) (.slice b2 m2 j2)) wo.heap.size 3 (Nat.le_refl _) (.int .i64 s9); have A4d : BW wo ((((w4.setCell ⟨w3.heap.size, 0, none⟩ (.slice b1 m1 j1)).setCell ⟨w3.heap.size, 1, none⟩ (.int .i64 f)).setCell ⟨w3.heap.size, 2, none⟩ (.slice b2 m2 j2)).setCell ⟨w3.heap.size, 3, none⟩ (.int .i64 s9)) := setB (setB (setB (setB A4 w3.heap.size 0 A3.size (.slice b1 m1 j1)) w3.heap.size 1 A3.size (.int .i64 f)) w3.heap.size 2 A3.size (.slice b2 m2 j2)) w3.heap.size 3 A3.size (.int .i64 s9); (try (have q4 : w4.heap[w3.heap.size]? = some (.cells #[.slice none 0 0, .int .i64 0, .slice none 0 0, .int .i64 0] 27) := (k4.block _ (by simp) (fun g => by have := (hvp _ g).2; omega)).trans (heap_last w3 _); obtain ⟨⟨r0, r1, r2, r3⟩, g0, g1, g2, g3⟩ := box4 q4)); (try (have q5 : w4.heap[wo.heap.size]? = some (.cells #[.slice none 0 0, .int .i64 0, .slice none 0 0, .int .i64 0] 27) := (k4.block _ (by omega) (fun g => by have h1 := (hvp _ g).1; omega)).trans q3; obtain ⟨⟨t0, t1, t2, t3⟩, u0, u1, u2, u3⟩ := box4 q5))))
          all_goals
            go_wp2_with fail
            go_meet
            case rel =>
              have ga := boxB w4 (.cells #[.slice b1 m1 j1, .int .i64 f, .slice b2 m2 j2, .int .i64 s9] 27)
              have hl4 := heap_last w4 (.cells #[.slice b1 m1 j1, .int .i64 f, .slice b2 m2 j2, .int .i64 s9] 27)
              have n1 := fun q => fill4 (w := w4) (Q := w3.heap.size) (t := 27) (a0 := .slice none 0 0) (a1 := .int .i64 0) (a2 := .slice none 0 0) (a3 := .int .i64 0) q (.slice b1 m1 j1) (.int .i64 f) (.slice b2 m2 j2) (.int .i64 s9)
              have n2 := fun q => fill4 (w := w4) (Q := wo.heap.size) (t := 27) (a0 := .slice none 0 0) (a1 := .int .i64 0) (a2 := .slice none 0 0) (a3 := .int .i64 0) q (.slice b1 m1 j1) (.int .i64 f) (.slice b2 m2 j2) (.int .i64 s9)
              refine ⟨_, b1, m1, j1, f, b2, m2, j2, s9, rfl, rfl, ?_, ?_, ?_⟩
              · first | with_reducible exact hl4 | with_reducible exact n1 q4 | with_reducible exact n2 q5
              · first | with_reducible exact A4b | with_reducible exact A4d | with_reducible exact A4c
              · intro u hu
                obtain ⟨e1, e2, e3, e4, hS4, hR4⟩ := hu4 u hu
                refine ⟨e1, e2, e3, e4, ?_, ?_⟩
                · first | with_reducible exact (hS4.below ga).mono ga.size | with_reducible exact ss_fill (Q := w3.heap.size) hS4 q4 (.slice b1 m1 j1) (.int .i64 f) (.slice b2 m2 j2) (.int .i64 s9) | with_reducible exact ss_fill (Q := wo.heap.size) hS4 q5 (.slice b1 m1 j1) (.int .i64 f) (.slice b2 m2 j2) (.int .i64 s9)
                · first | with_reducible exact (hR4.below ga).mono ga.size | with_reducible exact rs_fill (Q := w3.heap.size) hR4 q4 (.slice b1 m1 j1) (.int .i64 f) (.slice b2 m2 j2) (.int .i64 s9) | with_reducible exact rs_fill (Q := wo.heap.size) hR4 q5 (.slice b1 m1 j1) (.int .i64 f) (.slice b2 m2 j2) (.int .i64 s9)
      case rest =>
        as_aux_lemma =>
          obtain ⟨Q, b1, m1, j1, f, b2, m2, j2, s9, rfl, rfl, hQ, hB, hU⟩ := hcut
          have hM := HPo.out.on (show Below wo.heap.size wo wc from hB)
          cases hdv : doV v.1 v.2.1 v.2.2.1 v.2.2.2 oo with
          | none =>
            have hdd : dd = false := by rw [← HDD.out]; unfold didV; rw [hdv]; rfl
            subst hdd
            have HE : Hid (runV (l.take (k + 1)) (newV, []) = (v, d ++ [false])) := by
              show _ = _
              rw [HSN.out]
              unfold nextV
              rw [hdv]
              rfl
            obtain ⟨v', w', r1, hM'⟩ := hM.push false HDL.out
            have HM' := hid hM'
            clear hM hM' hU hdv HSN HDD HDO HOW HS hQ hB HPo
            go_wp2_with (at_builtin; refine wpList_append_run rfl (.tmp 31) (.tmp 33) 28 rfl _ _ rfl rfl _ _ r1 ?_)
            go_roundw
            case rel => exact ⟨k + 1, aB, kB, aL, kL, _, by omega, by go_num, rfl, by rw [HE.out]; exact HM'.out⟩
            case measure => simp [intOf]; omega
          | some u =>
            have hdd : dd = true := by rw [← HDD.out]; unfold didV; rw [hdv]; rfl
            subst hdd
            have HE : Hid (runV (l.take (k + 1)) (newV, []) = (u, d ++ [true])) := by
              show _ = _
              rw [HSN.out]
              unfold nextV
              rw [hdv]
              rfl
            obtain ⟨rfl, rfl, rfl, rfl, hS, hR⟩ := hU u hdv
            have hM2 := hM.put u b1 j1 b2 j2 hS hR
            obtain ⟨v', w', r1, hM'⟩ := hM2.push true HDL.out
            have hzf : ((((wc.setCell ⟨X, 0, none⟩ (.slice b1 u.1.length j1)).setCell ⟨X, 1, none⟩ (.int .i64 u.2.1)).setCell ⟨X, 2, none⟩ (.slice b2 u.2.2.1.length j2)).setCell ⟨X, 3, none⟩ (.int .i64 u.2.2.2)).heap.size = wc.heap.size := by simp [World.setCell]
            rw [hzf] at r1
            have HM' := hid hM'
            obtain ⟨⟨q0, q1, q2, q3⟩, -⟩ := box4 hQ
            obtain ⟨⟨e0, e1, e2, e3⟩, f0, f1, f2, f3⟩ := box4 hM.bv
            clear hM hM2 hM' hU hdv HSN HDD HDO HOW HS hQ hB HPo hS hR hzf
            go_wp2_with (at_builtin; refine wpList_append_run rfl (.tmp 31) (.tmp 33) 28 rfl _ _ rfl rfl _ _ r1 ?_)
            go_roundw
            case rel => exact ⟨k + 1, b1, j1, b2, j2, _, by omega, by go_num, rfl, by rw [HE.out]; exact HM'.out⟩
            case measure => simp [intOf]; omega
    · obtain rfl : k = l.length := by omega
      rw [List.take_length] at hP
      have HGD := hid (runV_good l (newV, []) GoodVol.new)
      obtain ⟨v, hv⟩ : ∃ v, (runV l (newV, [])).1 = v := ⟨_, rfl⟩
      obtain ⟨d, hdd⟩ : ∃ d, (runV l (newV, [])).2 = d := ⟨_, rfl⟩
      have HGD : Hid (GoodVol v) := by show GoodVol v; rw [← hv]; exact HGD.out
      rw [hv, hdd] at hP
      have HV := hid hv
      have HDD := hid hdd
      clear hv hdd
      have h16 := goodBs_len HGD.out.bs
      have h40 := HGD.out.len
      have HOW := hid (l6Own_any aB aL kB kL v.1 v.2.1 v.2.2.1 v.2.2.2 wr (by omega) (by omega) hP.ss hP.rs)
      obtain ⟨da, dc, rfl, hdo⟩ := hP.tb.own
      obtain ⟨⟨v0, v1, v2, v3⟩, -⟩ := box4 hP.bv
      have HP := hid hP
      have HDO := hid hdo
      clear hP hdo h16 h40
      go_wp2_with fail
      refine HOW.out.mono ?_
      rintro e w6 ⟨mid, b3, j3, b4, j4, rfl, hov, b6⟩
      have hP6 := HP.out.on b6
      obtain ⟨⟨z0, z1, z2, z3⟩, f0, f1, f2, f3⟩ := box4 hP6.bz
      have hbn := box_set (box_set (box_set (box_set hP6.bz 0 (.slice b3 v.1.length j3)) 1 (.int .i64 v.2.1)) 2 (.slice b4 v.2.2.1.length j4)) 3 (.int .i64 v.2.2.2)
      have e0 := box_cell hbn 0
      have e1 := box_cell hbn 1
      have e2 := box_cell hbn 2
      have e3 := box_cell hbn 3
      simp only [List.setIfInBounds_toArray, List.set_cons_zero, List.set_cons_succ, List.getElem?_toArray, List.getElem?_cons_zero, List.getElem?_cons_succ] at e0 e1 e2 e3
      have HOUT : Hid (POut v d true w (.returned (.tuple #[.agg #[.slice b3 v.1.length j3, .int .i64 v.2.1, .slice b4 v.2.2.1.length j4, .int .i64 v.2.2.2], .slice da d.length dc, .bool true])) ((((w6.setCell ⟨w.heap.size, 0, none⟩ (.slice b3 v.1.length j3)).setCell ⟨w.heap.size, 1, none⟩ (.int .i64 v.2.1)).setCell ⟨w.heap.size, 2, none⟩ (.slice b4 v.2.2.1.length j4)).setCell ⟨w.heap.size, 3, none⟩ (.int .i64 v.2.2.2))) := by
        have hx := HP.out.wx
        have hX := kboxV HP.out.bv
        have hs6 := b6.size
        have hsz : ((((w6.setCell ⟨w.heap.size, 0, none⟩ (.slice b3 v.1.length j3)).setCell ⟨w.heap.size, 1, none⟩ (.int .i64 v.2.1)).setCell ⟨w.heap.size, 2, none⟩ (.slice b4 v.2.2.1.length j4)).setCell ⟨w.heap.size, 3, none⟩ (.int .i64 v.2.2.2)).heap.size = w6.heap.size := by simp [World.setCell]
        have hk : ∀ q, q ≠ w.heap.size → ((((w6.setCell ⟨w.heap.size, 0, none⟩ (.slice b3 v.1.length j3)).setCell ⟨w.heap.size, 1, none⟩ (.int .i64 v.2.1)).setCell ⟨w.heap.size, 2, none⟩ (.slice b4 v.2.2.1.length j4)).setCell ⟨w.heap.size, 3, none⟩ (.int .i64 v.2.2.2)).heap[q]? = w6.heap[q]? := fun q h1 => by
          rw [keepB _ _ _ _ _ h1, keepB _ _ _ _ _ h1, keepB _ _ _ _ _ h1, keepB _ _ _ _ _ h1]
        have hdo : OwnB (X + 1) wr.heap.size da d ((((w6.setCell ⟨w.heap.size, 0, none⟩ (.slice b3 v.1.length j3)).setCell ⟨w.heap.size, 1, none⟩ (.int .i64 v.2.1)).setCell ⟨w.heap.size, 2, none⟩ (.slice b4 v.2.2.1.length j4)).setCell ⟨w.heap.size, 3, none⟩ (.int .i64 v.2.2.2)) := by
          rcases HDO.out with e | ⟨R, r1, r2, e, r⟩
          · exact Or.inl e
          · exact Or.inr ⟨R, r1, r2, e, (r.below b6).same (by omega) (hk R (by omega))⟩
        refine ⟨b3, j3, b4, j4, da, dc, rfl, wr.heap.size, w6.heap.size, X + 1, wr.heap.size, by omega, by omega, by omega, by omega, by omega, by omega, by omega, hov.own.same (by omega) (fun q h1 h2 => hk q (by omega)), hdo, setB (setB (setB (setB hP6.be _ _ (Nat.le_refl _) _) _ _ (Nat.le_refl _) _) _ _ (Nat.le_refl _) _) _ _ (Nat.le_refl _) _⟩
      clear hbn hP6 hov b6 HOW HP HDO
      go_wp2_with fail
      generalize ((((w6.setCell ⟨w.heap.size, 0, none⟩ (.slice b3 v.1.length j3)).setCell ⟨w.heap.size, 1, none⟩ (.int .i64 v.2.1)).setCell ⟨w.heap.size, 2, none⟩ (.slice b4 v.2.2.1.length j4)).setCell ⟨w.heap.size, 3, none⟩ (.int .i64 v.2.2.2)) = XX at *
      refine bodyPost_ret (v := .tuple #[.agg #[.slice b3 v.1.length j3, .int .i64 v.2.1, .slice b4 v.2.2.1.length j4, .int .i64 v.2.2.2], .slice da d.length dc, .bool true]) (by simp [results, Try.results5, go_sem, e0, e1, e2, e3]) rfl ?_
      rw [HV.out, HDD.out]
      exact HOUT.out
end Go.Proofs.Ytlaafcmfddidnaa
namespace Go.Proofs.Ytlaafcmfddidnaa
set_option maxRecDepth 100000
open Go Go.ChangeShapes Go.WideShapes Go.ChangeAt Go.RowKit G00541
set_option maxHeartbeats 1000000 in
theorem splay_no (a : Option Addr) (cap : Nat) (l : List Op) (w : World) (hn : ¬ l.length ≤ 60) (hm : l.length ≤ 1048576) :
    Calls Try.prog 5 #[.slice a l.length cap] w fun e w' => POut ([], 0, [], 0) [] false w e w' := by
  have hd60 : decide ((60 : Int) < (l.length : Int)) = true := decide_eq_true (by omega)
  have g0 := boxB w (.cells #[.slice none 0 0, .int .i64 0, .slice none 0 0, .int .i64 0] 27)
  have k0 := heap_last w (.cells #[.slice none 0 0, .int .i64 0, .slice none 0 0, .int .i64 0] 27)
  generalize hW0 : w.alloc (.cells #[.slice none 0 0, .int .i64 0, .slice none 0 0, .int .i64 0] 27) = w0 at *
  obtain ⟨⟨z0, z1, z2, z3⟩, f0, f1, f2, f3⟩ := box4 k0
  have hbn := box_set (box_set (box_set (box_set k0 0 (.slice none 0 0)) 1 (.int .i64 0)) 2 (.slice none 0 0)) 3 (.int .i64 0)
  have e0 := box_cell hbn 0
  have e1 := box_cell hbn 1
  have e2 := box_cell hbn 2
  have e3 := box_cell hbn 3
  simp only [List.setIfInBounds_toArray, List.set_cons_zero, List.set_cons_succ, List.getElem?_toArray, List.getElem?_cons_zero, List.getElem?_cons_succ] at e0 e1 e2 e3
  have HB := hid (setB (setB (setB (setB g0 w.heap.size 0 (Nat.le_refl _) (.slice none 0 0)) w.heap.size 1 (Nat.le_refl _) (.int .i64 0)) w.heap.size 2 (Nat.le_refl _) (.slice none 0 0)) w.heap.size 3 (Nat.le_refl _) (.int .i64 0))
  clear g0 k0 hbn
  go_enter Try.func5, Try.ntmps5
  go_wp2_with fail
  generalize ((((w0.setCell ⟨w.heap.size, 0, none⟩ (.slice none 0 0)).setCell ⟨w.heap.size, 1, none⟩ (.int .i64 0)).setCell ⟨w.heap.size, 2, none⟩ (.slice none 0 0)).setCell ⟨w.heap.size, 3, none⟩ (.int .i64 0)) = XX at *
  refine bodyPost_ret (v := .tuple #[.agg #[.slice none 0 0, .int .i64 0, .slice none 0 0, .int .i64 0], .slice none 0 0, .bool false]) (by simp [results, Try.results5, go_sem, e0, e1, e2, e3]) rfl ?_
  exact ⟨none, 0, none, 0, none, 0, rfl, w.heap.size, w.heap.size, w.heap.size, w.heap.size, Nat.le_refl _, HB.out.size, Nat.le_refl _, HB.out.size, Nat.le_refl _, Nat.le_refl _, Or.inl (Nat.le_refl _), OwnV.none _ _ (Nat.le_refl _) _ _ _, Or.inl rfl, HB.out⟩
set_option maxHeartbeats 1000000 in
theorem iplay_no (a : Option Addr) (cap : Nat) (l : List Op) (w : World) (hn : ¬ l.length ≤ 60) (hm : l.length ≤ 1048576) :
    Calls Try.prog 7 #[.slice a l.length cap] w fun e w' => POut ([], 0, [], 0) [] false w e w' := by
  have hd60 : decide ((60 : Int) < (l.length : Int)) = true := decide_eq_true (by omega)
  have g0 := boxB w (.cells #[.slice none 0 0, .int .i64 0, .slice none 0 0, .int .i64 0] 27)
  have k0 := heap_last w (.cells #[.slice none 0 0, .int .i64 0, .slice none 0 0, .int .i64 0] 27)
  generalize hW0 : w.alloc (.cells #[.slice none 0 0, .int .i64 0, .slice none 0 0, .int .i64 0] 27) = w0 at *
  obtain ⟨⟨z0, z1, z2, z3⟩, f0, f1, f2, f3⟩ := box4 k0
  have hbn := box_set (box_set (box_set (box_set k0 0 (.slice none 0 0)) 1 (.int .i64 0)) 2 (.slice none 0 0)) 3 (.int .i64 0)
  have e0 := box_cell hbn 0
  have e1 := box_cell hbn 1
  have e2 := box_cell hbn 2
  have e3 := box_cell hbn 3
  simp only [List.setIfInBounds_toArray, List.set_cons_zero, List.set_cons_succ, List.getElem?_toArray, List.getElem?_cons_zero, List.getElem?_cons_succ] at e0 e1 e2 e3
  have HB := hid (setB (setB (setB (setB g0 w.heap.size 0 (Nat.le_refl _) (.slice none 0 0)) w.heap.size 1 (Nat.le_refl _) (.int .i64 0)) w.heap.size 2 (Nat.le_refl _) (.slice none 0 0)) w.heap.size 3 (Nat.le_refl _) (.int .i64 0))
  clear g0 k0 hbn
  go_enter Try.func7, Try.ntmps7
  go_wp2_with fail
  generalize ((((w0.setCell ⟨w.heap.size, 0, none⟩ (.slice none 0 0)).setCell ⟨w.heap.size, 1, none⟩ (.int .i64 0)).setCell ⟨w.heap.size, 2, none⟩ (.slice none 0 0)).setCell ⟨w.heap.size, 3, none⟩ (.int .i64 0)) = XX at *
  refine bodyPost_ret (v := .tuple #[.agg #[.slice none 0 0, .int .i64 0, .slice none 0 0, .int .i64 0], .slice none 0 0, .bool false]) (by simp [results, Try.results7, go_sem, e0, e1, e2, e3]) rfl ?_
  exact ⟨none, 0, none, 0, none, 0, rfl, w.heap.size, w.heap.size, w.heap.size, w.heap.size, Nat.le_refl _, HB.out.size, Nat.le_refl _, HB.out.size, Nat.le_refl _, Nat.le_refl _, Or.inl (Nat.le_refl _), OwnV.none _ _ (Nat.le_refl _) _ _ _, Or.inl rfl, HB.out⟩
theorem mark_ownBk (lo hi : Nat) (a : Option Addr) (c k : Nat) (l : List Bool) (w : World) (hn : l.length ≤ 1048576) (k1 : 1 ≤ k) (k2 : k ≤ 4611686018427387904) (h : OwnB lo hi a l w) :
    Calls Try.prog 13 #[.slice a l.length c, .int .i64 k] w fun e w' => e = .returned (.int .i64 (k + l.length : Nat)) ∧ OwnB lo hi a (bmarks l.length k) w' ∧ Out lo hi w w' := by
  rcases h with rfl | ⟨R, h1, h3, rfl, hr⟩
  · exact (markBoolS_none a c k w).mono fun e w' ⟨he, hb⟩ => ⟨he, Or.inl rfl, by subst hb; exact Out.refl _ _ _⟩
  · exact (markBoolS_row R c k l w hn k1 k2 hr).mono fun e w' ⟨he, hrow, hb⟩ => ⟨he, Or.inr ⟨R, h1, h3, rfl, hrow⟩, Out.ofBut hb h1 h3⟩
theorem splay_any (a : Option Addr) (cap : Nat) (l : List Op) (w : World) (hm : l.length ≤ 1048576) (hZ : Os w.heap.size a l w) :
    Calls Try.prog 5 #[.slice a l.length cap] w fun e w' => POut (plV l) (plD l) (plOk l) w e w' := by
  unfold plV plD plOk
  by_cases h : l.length ≤ 60
  · rw [if_pos h, if_pos h, decide_eq_true h]
    exact splay_yes a cap l w h hZ
  · rw [if_neg h, if_neg h, decide_eq_false h]
    exact splay_no a cap l w h hm
theorem iplay_any (a : Option Addr) (cap : Nat) (l : List Op) (w : World) (hm : l.length ≤ 1048576) (hZ : Os w.heap.size a l w) :
    Calls Try.prog 7 #[.slice a l.length cap] w fun e w' => POut (plV l) (plD l) (plOk l) w e w' := by
  unfold plV plD plOk
  by_cases h : l.length ≤ 60
  · rw [if_pos h, if_pos h, decide_eq_true h]
    exact iplay_yes a cap l w h hZ
  · rw [if_neg h, if_neg h, decide_eq_false h]
    exact iplay_no a cap l w h hm
theorem pl_fit (l : List Op) : FitV (plV l).1 (plV l).2.2.1 ∧ (plD l).length ≤ 60 := by
  unfold plV plD
  by_cases h : l.length ≤ 60
  · rw [if_pos h, if_pos h]
    have hg := runV_good l (newV, []) GoodVol.new
    have h1 := goodBs_len hg.bs
    have h2 := hg.len
    refine ⟨⟨by omega, by omega⟩, ?_⟩
    rw [runV_len]
    simpa using h
  · rw [if_neg h, if_neg h]
    exact ⟨⟨by decide, by decide⟩, by decide⟩
/-- function f plays so -/
def TellsPl (f : Nat) (l : List Op) (V : Vol) (D : List Bool) (ok : Bool) : Prop := ∀ (q : Option Addr) (d : Nat) (v : World), Os v.heap.size q l v → Calls Try.prog f #[.slice q l.length d] v fun e w' => POut V D ok v e w'
set_option maxHeartbeats 12000000 in
theorem law_PlayVolume (a : Option Addr) (cap : Nat) (l : List Op) (w : World) (hs : ∀ r ∈ l, r.data.size ≤ 9223372036854775807) (hl : l.length ≤ 9223372036854775807) (hZ : Os w.heap.size a l w) :
    Calls Try.prog 3 #[.slice a l.length cap] w fun e w' => e = .returned (.bool true) ∧ Below w.heap.size w w' := by
  have HZ : Hid (∀ v, Below w.heap.size w v → Os v.heap.size a l v) := fun v g => (hZ.below g).mono g.size
  have HCN := hid hs
  have HLN := hid hl
  have HH : Hid (l.length ≤ 1048576 → TellsPl 5 l (plV l) (plD l) (plOk l) ∧ TellsPl 7 l (plV l) (plD l) (plOk l)) := fun h => ⟨fun q d v hv => splay_any q d l v h hv, fun q d v hv => iplay_any q d l v h hv⟩
  have HF0 := hid (pl_fit l)
  clear hZ hs hl
  generalize plV l = V at *
  generalize plD l = D at *
  generalize plOk l = ok at *
  obtain ⟨B, F, L, s⟩ := V
  have HF : Hid (FitV B L) := HF0.out.1
  have HD60 : D.length ≤ 60 := HF0.out.2
  have HD : Hid (D.length ≤ 1048576) := by show _ ≤ _; omega
  have HDs := hid HD60
  clear HF0 HD60
  have B_w : Hid (Below w.heap.size w w) := Below.refl _ _
  have hbk : (ok != ok) = false := by cases ok <;> rfl
  go_enter Try.func3, Try.ntmps3
  go_wp2_with fail
  refine (szVolOpS_left a cap l 1048576 w (by decide) (by decide) HCN.out HLN.out (HZ.out _ B_w.out)).mono ?_
  rintro e w1 ⟨⟨r, rfl, r1, hr⟩, gv⟩
  have s_w1 := gv.size
  have B_w1 : Hid (Below w.heap.size w w1) := B_w.out.trans (gv.mono B_w.out.size)
  clear B_w
  clear gv
  by_cases p0 : 0 ≤ r
  case neg =>
    have hd0 : decide (r < 0) = true := decide_eq_true (by omega)
    clear hr
    go_wp2_with fail
    go_ret
    exact ⟨rfl, B_w1.out⟩
  have hd0 : decide (r < 0) = false := decide_eq_false (by omega)
  have HL : Hid (l.length ≤ 1048576) := hr p0
  obtain ⟨h9, h11⟩ := HH.out HL.out
  have H9 := hid h9
  have H11 := hid h11
  clear hr r1 HCN HLN h9 h11 HH
  unfold TellsPl POut at H9 H11
  simp only at H9 H11
  go_wp2_with fail
  refine (to_ownO a cap l _ HL.out (HZ.out _ B_w1.out)).mono ?_
  rintro e w2 ⟨b2, rfl, o2, g2⟩
  have s_w2 := g2.size
  have B_w2 : Hid (Below w.heap.size w w2) := B_w1.out.trans (g2.mono B_w1.out.size)
  clear B_w1
  have T_w2 : Hid (OwnO w1.heap.size w2.heap.size b2 l w2) := o2
  clear o2 g2
  go_wp2_with fail
  refine (H9.out b2 l.length _ T_w2.out.os).mono ?_
  rintro e w3 ⟨p3, c3, q3, d3, r3, f3, rfl, la3, ha3, lb3, hb3, i13, i23, i33, i43, i53, i63, i73, ov3, ob3, g3⟩
  have s_w3 := g3.size
  have B_w3 : Hid (Below w.heap.size w w3) := B_w2.out.trans (g3.mono B_w2.out.size)
  have T_w3 : Hid (OwnO w1.heap.size w2.heap.size b2 l w3) := T_w2.out.below g3
  clear B_w2 T_w2
  have W_w3 : Hid (OwnV la3 ha3 p3 B q3 L w3) := ov3
  have Wb_w3 : Hid (OwnB lb3 hb3 r3 D w3) := ob3
  clear ov3 ob3 g3
  clear H9
  go_wp2_with fail
  have gA := boxB w3 (.cells #[.slice p3 B.length c3, .int .i64 F, .slice q3 L.length d3, .int .i64 s] 27)
  have hA := heap_last w3 (.cells #[.slice p3 B.length c3, .int .i64 F, .slice q3 L.length d3, .int .i64 s] 27)
  have zA : (w3.alloc (.cells #[.slice p3 B.length c3, .int .i64 F, .slice q3 L.length d3, .int .i64 s] 27)).heap.size ≤ w3.heap.size + 1 := Nat.le_of_eq (heap_size _ _)
  have yA : w3.heap.size < (w3.alloc (.cells #[.slice p3 B.length c3, .int .i64 F, .slice q3 L.length d3, .int .i64 s] 27)).heap.size := by simp
  generalize w3.alloc (.cells #[.slice p3 B.length c3, .int .i64 F, .slice q3 L.length d3, .int .i64 s] 27) = w4 at *
  have s_w4 := gA.size
  have B_w4 : Hid (Below w.heap.size w w4) := B_w3.out.trans (gA.mono B_w3.out.size)
  have T_w4 : Hid (OwnO w1.heap.size w2.heap.size b2 l w4) := T_w3.out.below gA
  have W_w4 : Hid (OwnV la3 ha3 p3 B q3 L w4) := W_w3.out.below gA
  have Wb_w4 : Hid (OwnB lb3 hb3 r3 D w4) := Wb_w3.out.below gA
  clear B_w3 T_w3 W_w3 Wb_w3
  have Wk_w4 : Hid (w4.heap[w3.heap.size]? = some (.cells #[.slice p3 B.length c3, .int .i64 F, .slice q3 L.length d3, .int .i64 s] 27)) := hA
  have zz4 := zA
  have yy4 := yA
  clear gA hA zA yA
  refine (to_ownO a cap l _ HL.out (HZ.out _ B_w4.out)).mono ?_
  rintro e w5 ⟨b5, rfl, o5, g5⟩
  have s_w5 := g5.size
  have B_w5 : Hid (Below w.heap.size w w5) := B_w4.out.trans (g5.mono B_w4.out.size)
  have T_w5 : Hid (OwnO w1.heap.size w2.heap.size b2 l w5) := T_w4.out.below g5
  have W_w5 : Hid (OwnV la3 ha3 p3 B q3 L w5) := W_w4.out.below g5
  have Wb_w5 : Hid (OwnB lb3 hb3 r3 D w5) := Wb_w4.out.below g5
  have Wk_w5 : Hid (w5.heap[w3.heap.size]? = some (.cells #[.slice p3 B.length c3, .int .i64 F, .slice q3 L.length d3, .int .i64 s] 27)) := (g5.block _ (kboxV Wk_w4.out)).trans Wk_w4.out
  clear B_w4 T_w4 W_w4 Wb_w4 Wk_w4
  have X_w5 : Hid (OwnO w4.heap.size w5.heap.size b5 l w5) := o5
  clear o5 g5
  go_wp2_with fail
  refine (H11.out b5 l.length _ X_w5.out.os).mono ?_
  rintro e w6 ⟨p6, c6, q6, d6, r6, f6, rfl, la6, ha6, lb6, hb6, i16, i26, i36, i46, i56, i66, i76, ov6, ob6, g6⟩
  have s_w6 := g6.size
  have B_w6 : Hid (Below w.heap.size w w6) := B_w5.out.trans (g6.mono B_w5.out.size)
  have T_w6 : Hid (OwnO w1.heap.size w2.heap.size b2 l w6) := T_w5.out.below g6
  have W_w6 : Hid (OwnV la3 ha3 p3 B q3 L w6) := W_w5.out.below g6
  have Wb_w6 : Hid (OwnB lb3 hb3 r3 D w6) := Wb_w5.out.below g6
  have Wk_w6 : Hid (w6.heap[w3.heap.size]? = some (.cells #[.slice p3 B.length c3, .int .i64 F, .slice q3 L.length d3, .int .i64 s] 27)) := (g6.block _ (kboxV Wk_w5.out)).trans Wk_w5.out
  have X_w6 : Hid (OwnO w4.heap.size w5.heap.size b5 l w6) := X_w5.out.below g6
  clear B_w5 T_w5 W_w5 Wb_w5 Wk_w5 X_w5
  have G_w6 : Hid (OwnV la6 ha6 p6 B q6 L w6) := ov6
  have Gb_w6 : Hid (OwnB lb6 hb6 r6 D w6) := ob6
  clear ov6 ob6 g6
  obtain ⟨⟨z00, z01, z02, z03⟩, -⟩ := box4 (((boxB w6 (.cells #[.slice p6 B.length c6, .int .i64 F, .slice q6 L.length d6, .int .i64 s] 27)).block _ (kboxV Wk_w6.out)).trans Wk_w6.out)
  go_wp2_with fail
  clear z00 z01 z02 z03
  have gA := boxB w6 (.cells #[.slice p6 B.length c6, .int .i64 F, .slice q6 L.length d6, .int .i64 s] 27)
  have hA := heap_last w6 (.cells #[.slice p6 B.length c6, .int .i64 F, .slice q6 L.length d6, .int .i64 s] 27)
  have zA : (w6.alloc (.cells #[.slice p6 B.length c6, .int .i64 F, .slice q6 L.length d6, .int .i64 s] 27)).heap.size ≤ w6.heap.size + 1 := Nat.le_of_eq (heap_size _ _)
  have yA : w6.heap.size < (w6.alloc (.cells #[.slice p6 B.length c6, .int .i64 F, .slice q6 L.length d6, .int .i64 s] 27)).heap.size := by simp
  generalize w6.alloc (.cells #[.slice p6 B.length c6, .int .i64 F, .slice q6 L.length d6, .int .i64 s] 27) = w7 at *
  have s_w7 := gA.size
  have B_w7 : Hid (Below w.heap.size w w7) := B_w6.out.trans (gA.mono B_w6.out.size)
  have T_w7 : Hid (OwnO w1.heap.size w2.heap.size b2 l w7) := T_w6.out.below gA
  have W_w7 : Hid (OwnV la3 ha3 p3 B q3 L w7) := W_w6.out.below gA
  have Wb_w7 : Hid (OwnB lb3 hb3 r3 D w7) := Wb_w6.out.below gA
  have Wk_w7 : Hid (w7.heap[w3.heap.size]? = some (.cells #[.slice p3 B.length c3, .int .i64 F, .slice q3 L.length d3, .int .i64 s] 27)) := (gA.block _ (kboxV Wk_w6.out)).trans Wk_w6.out
  have X_w7 : Hid (OwnO w4.heap.size w5.heap.size b5 l w7) := X_w6.out.below gA
  have G_w7 : Hid (OwnV la6 ha6 p6 B q6 L w7) := G_w6.out.below gA
  have Gb_w7 : Hid (OwnB lb6 hb6 r6 D w7) := Gb_w6.out.below gA
  clear B_w6 T_w6 W_w6 Wb_w6 Wk_w6 X_w6 G_w6 Gb_w6
  have Gk_w7 : Hid (w7.heap[w6.heap.size]? = some (.cells #[.slice p6 B.length c6, .int .i64 F, .slice q6 L.length d6, .int .i64 s] 27)) := hA
  have zz7 := zA
  have yy7 := yA
  clear gA hA zA yA
  refine (eqVolume_same p6 q6 p3 q3 c6 d6 c3 d3 B F L s _ HF.out G_w7.out.read.1 G_w7.out.read.2 W_w7.out.read.1 W_w7.out.read.2).mono ?_
  rintro e w8 ⟨rfl, g8⟩
  have s_w8 := g8.size
  have B_w8 : Hid (Below w.heap.size w w8) := B_w7.out.trans (g8.mono B_w7.out.size)
  have T_w8 : Hid (OwnO w1.heap.size w2.heap.size b2 l w8) := T_w7.out.below g8
  have W_w8 : Hid (OwnV la3 ha3 p3 B q3 L w8) := W_w7.out.below g8
  have Wb_w8 : Hid (OwnB lb3 hb3 r3 D w8) := Wb_w7.out.below g8
  have Wk_w8 : Hid (w8.heap[w3.heap.size]? = some (.cells #[.slice p3 B.length c3, .int .i64 F, .slice q3 L.length d3, .int .i64 s] 27)) := (g8.block _ (kboxV Wk_w7.out)).trans Wk_w7.out
  have X_w8 : Hid (OwnO w4.heap.size w5.heap.size b5 l w8) := X_w7.out.below g8
  have G_w8 : Hid (OwnV la6 ha6 p6 B q6 L w8) := G_w7.out.below g8
  have Gb_w8 : Hid (OwnB lb6 hb6 r6 D w8) := Gb_w7.out.below g8
  have Gk_w8 : Hid (w8.heap[w6.heap.size]? = some (.cells #[.slice p6 B.length c6, .int .i64 F, .slice q6 L.length d6, .int .i64 s] 27)) := (g8.block _ (kboxV Gk_w7.out)).trans Gk_w7.out
  clear B_w7 T_w7 W_w7 Wb_w7 Wk_w7 X_w7 G_w7 Gb_w7 Gk_w7
  clear g8
  go_wp2_with fail
  refine (eqBoolS_same r6 r3 f6 f3 D _ HD.out Gb_w8.out.bs Wb_w8.out.bs).mono ?_
  rintro e w9 ⟨rfl, g9⟩
  have s_w9 := g9.size
  have B_w9 : Hid (Below w.heap.size w w9) := B_w8.out.trans (g9.mono B_w8.out.size)
  have T_w9 : Hid (OwnO w1.heap.size w2.heap.size b2 l w9) := T_w8.out.below g9
  have W_w9 : Hid (OwnV la3 ha3 p3 B q3 L w9) := W_w8.out.below g9
  have Wb_w9 : Hid (OwnB lb3 hb3 r3 D w9) := Wb_w8.out.below g9
  have Wk_w9 : Hid (w9.heap[w3.heap.size]? = some (.cells #[.slice p3 B.length c3, .int .i64 F, .slice q3 L.length d3, .int .i64 s] 27)) := (g9.block _ (kboxV Wk_w8.out)).trans Wk_w8.out
  have X_w9 : Hid (OwnO w4.heap.size w5.heap.size b5 l w9) := X_w8.out.below g9
  have G_w9 : Hid (OwnV la6 ha6 p6 B q6 L w9) := G_w8.out.below g9
  have Gb_w9 : Hid (OwnB lb6 hb6 r6 D w9) := Gb_w8.out.below g9
  have Gk_w9 : Hid (w9.heap[w6.heap.size]? = some (.cells #[.slice p6 B.length c6, .int .i64 F, .slice q6 L.length d6, .int .i64 s] 27)) := (g9.block _ (kboxV Gk_w8.out)).trans Gk_w8.out
  clear B_w8 T_w8 W_w8 Wb_w8 Wk_w8 X_w8 G_w8 Gb_w8 Gk_w8
  clear g9
  go_wp2_with fail
  refine (to_ownO a cap l _ HL.out (HZ.out _ B_w9.out)).mono ?_
  rintro e w10 ⟨b10, rfl, o10, g10⟩
  have s_w10 := g10.size
  have B_w10 : Hid (Below w.heap.size w w10) := B_w9.out.trans (g10.mono B_w9.out.size)
  have T_w10 : Hid (OwnO w1.heap.size w2.heap.size b2 l w10) := T_w9.out.below g10
  have W_w10 : Hid (OwnV la3 ha3 p3 B q3 L w10) := W_w9.out.below g10
  have Wb_w10 : Hid (OwnB lb3 hb3 r3 D w10) := Wb_w9.out.below g10
  have Wk_w10 : Hid (w10.heap[w3.heap.size]? = some (.cells #[.slice p3 B.length c3, .int .i64 F, .slice q3 L.length d3, .int .i64 s] 27)) := (g10.block _ (kboxV Wk_w9.out)).trans Wk_w9.out
  have X_w10 : Hid (OwnO w4.heap.size w5.heap.size b5 l w10) := X_w9.out.below g10
  have G_w10 : Hid (OwnV la6 ha6 p6 B q6 L w10) := G_w9.out.below g10
  have Gb_w10 : Hid (OwnB lb6 hb6 r6 D w10) := Gb_w9.out.below g10
  have Gk_w10 : Hid (w10.heap[w6.heap.size]? = some (.cells #[.slice p6 B.length c6, .int .i64 F, .slice q6 L.length d6, .int .i64 s] 27)) := (g10.block _ (kboxV Gk_w9.out)).trans Gk_w9.out
  clear B_w9 T_w9 W_w9 Wb_w9 Wk_w9 X_w9 G_w9 Gb_w9 Gk_w9
  have Y_w10 : Hid (OwnO w9.heap.size w10.heap.size b10 l w10) := o10
  clear o10 g10
  go_wp2_with fail
  refine (eqVolOpS_same b5 b10 l.length l.length l _ HL.out X_w10.out.os Y_w10.out.os).mono ?_
  rintro e w11 ⟨rfl, g11⟩
  have s_w11 := g11.size
  have B_w11 : Hid (Below w.heap.size w w11) := B_w10.out.trans (g11.mono B_w10.out.size)
  have W_w11 : Hid (OwnV la3 ha3 p3 B q3 L w11) := W_w10.out.below g11
  have Wb_w11 : Hid (OwnB lb3 hb3 r3 D w11) := Wb_w10.out.below g11
  have Wk_w11 : Hid (w11.heap[w3.heap.size]? = some (.cells #[.slice p3 B.length c3, .int .i64 F, .slice q3 L.length d3, .int .i64 s] 27)) := (g11.block _ (kboxV Wk_w10.out)).trans Wk_w10.out
  have X_w11 : Hid (OwnO w4.heap.size w5.heap.size b5 l w11) := X_w10.out.below g11
  have G_w11 : Hid (OwnV la6 ha6 p6 B q6 L w11) := G_w10.out.below g11
  have Gb_w11 : Hid (OwnB lb6 hb6 r6 D w11) := Gb_w10.out.below g11
  have Gk_w11 : Hid (w11.heap[w6.heap.size]? = some (.cells #[.slice p6 B.length c6, .int .i64 F, .slice q6 L.length d6, .int .i64 s] 27)) := (g11.block _ (kboxV Gk_w10.out)).trans Gk_w10.out
  clear B_w10 T_w10 W_w10 Wb_w10 Wk_w10 X_w10 G_w10 Gb_w10 Gk_w10 Y_w10
  clear g11
  have HLl := HL.out
  have hk0 : decide (((1 + 5 * l.length : Nat) : Int) < 0) = false := decide_eq_false (by omega)
  go_wp2_with fail
  refine (mark_ownO _ _ b5 l.length l _ HL.out X_w11.out).mono ?_
  rintro e w12 ⟨rfl, o12, t12⟩
  have s_w12 := t12.size
  have B_w12 : Hid (Below w.heap.size w w12) := B_w11.out.trans (t12.below (by omega) B_w11.out.size)
  have W_w12 : Hid (OwnV la3 ha3 p3 B q3 L w12) := W_w11.out.out t12 (by omega)
  have Wb_w12 : Hid (OwnB lb3 hb3 r3 D w12) := Wb_w11.out.out t12 (by omega)
  have Wk_w12 : Hid (w12.heap[w3.heap.size]? = some (.cells #[.slice p3 B.length c3, .int .i64 F, .slice q3 L.length d3, .int .i64 s] 27)) := (t12.block _ (kboxV Wk_w11.out) (by have := kboxV Wk_w11.out; omega)).trans Wk_w11.out
  have G_w12 : Hid (OwnV la6 ha6 p6 B q6 L w12) := G_w11.out.out t12 (by omega)
  have Gb_w12 : Hid (OwnB lb6 hb6 r6 D w12) := Gb_w11.out.out t12 (by omega)
  have Gk_w12 : Hid (w12.heap[w6.heap.size]? = some (.cells #[.slice p6 B.length c6, .int .i64 F, .slice q6 L.length d6, .int .i64 s] 27)) := (t12.block _ (kboxV Gk_w11.out) (by have := kboxV Gk_w11.out; omega)).trans Gk_w11.out
  clear B_w11 W_w11 Wb_w11 Wk_w11 X_w11 G_w11 Gb_w11 Gk_w11
  clear o12 t12
  generalize 1 + 5 * l.length = m0 at *
  obtain ⟨⟨t00, t01, t02, t03⟩, -⟩ := box4 Gk_w12.out
  obtain ⟨⟨t10, t11, t12, t13⟩, -⟩ := box4 Wk_w12.out
  go_wp2_with fail
  refine (eqVolume_same p6 q6 p3 q3 c6 d6 c3 d3 B F L s _ HF.out G_w12.out.read.1 G_w12.out.read.2 W_w12.out.read.1 W_w12.out.read.2).mono ?_
  rintro e w13 ⟨rfl, g13⟩
  clear t00 t01 t02 t03
  clear t10 t11 t12 t13
  have s_w13 := g13.size
  have B_w13 : Hid (Below w.heap.size w w13) := B_w12.out.trans (g13.mono B_w12.out.size)
  have W_w13 : Hid (OwnV la3 ha3 p3 B q3 L w13) := W_w12.out.below g13
  have Wb_w13 : Hid (OwnB lb3 hb3 r3 D w13) := Wb_w12.out.below g13
  have Wk_w13 : Hid (w13.heap[w3.heap.size]? = some (.cells #[.slice p3 B.length c3, .int .i64 F, .slice q3 L.length d3, .int .i64 s] 27)) := (g13.block _ (kboxV Wk_w12.out)).trans Wk_w12.out
  have G_w13 : Hid (OwnV la6 ha6 p6 B q6 L w13) := G_w12.out.below g13
  have Gb_w13 : Hid (OwnB lb6 hb6 r6 D w13) := Gb_w12.out.below g13
  have Gk_w13 : Hid (w13.heap[w6.heap.size]? = some (.cells #[.slice p6 B.length c6, .int .i64 F, .slice q6 L.length d6, .int .i64 s] 27)) := (g13.block _ (kboxV Gk_w12.out)).trans Gk_w12.out
  clear B_w12 W_w12 Wb_w12 Wk_w12 G_w12 Gb_w12 Gk_w12
  clear g13
  go_wp2_with fail
  refine (eqBoolS_same r6 r3 f6 f3 D _ HD.out Gb_w13.out.bs Wb_w13.out.bs).mono ?_
  rintro e w14 ⟨rfl, g14⟩
  have s_w14 := g14.size
  have B_w14 : Hid (Below w.heap.size w w14) := B_w13.out.trans (g14.mono B_w13.out.size)
  have W_w14 : Hid (OwnV la3 ha3 p3 B q3 L w14) := W_w13.out.below g14
  have Wb_w14 : Hid (OwnB lb3 hb3 r3 D w14) := Wb_w13.out.below g14
  have Wk_w14 : Hid (w14.heap[w3.heap.size]? = some (.cells #[.slice p3 B.length c3, .int .i64 F, .slice q3 L.length d3, .int .i64 s] 27)) := (g14.block _ (kboxV Wk_w13.out)).trans Wk_w13.out
  have G_w14 : Hid (OwnV la6 ha6 p6 B q6 L w14) := G_w13.out.below g14
  have Gb_w14 : Hid (OwnB lb6 hb6 r6 D w14) := Gb_w13.out.below g14
  have Gk_w14 : Hid (w14.heap[w6.heap.size]? = some (.cells #[.slice p6 B.length c6, .int .i64 F, .slice q6 L.length d6, .int .i64 s] 27)) := (g14.block _ (kboxV Gk_w13.out)).trans Gk_w13.out
  clear B_w13 W_w13 Wb_w13 Wk_w13 G_w13 Gb_w13 Gk_w13
  clear g14
  obtain ⟨⟨u0, u1, u2, u3⟩, -⟩ := box4 Gk_w14.out
  go_wp2_with fail
  refine (markVolume_any _ _ p6 q6 c6 d6 B F L s _ HF.out (by omega) G_w14.out).mono ?_
  rintro e w15 ⟨rfl, o15, t15⟩
  clear u0 u1 u2 u3
  have s_w15 := t15.size
  have B_w15 : Hid (Below w.heap.size w w15) := B_w14.out.trans (t15.below (by omega) B_w14.out.size)
  have W_w15 : Hid (OwnV la3 ha3 p3 B q3 L w15) := W_w14.out.out t15 (by omega)
  have Wb_w15 : Hid (OwnB lb3 hb3 r3 D w15) := Wb_w14.out.out t15 (by omega)
  have Wk_w15 : Hid (w15.heap[w3.heap.size]? = some (.cells #[.slice p3 B.length c3, .int .i64 F, .slice q3 L.length d3, .int .i64 s] 27)) := (t15.block _ (kboxV Wk_w14.out) (by have := kboxV Wk_w14.out; omega)).trans Wk_w14.out
  have Gb_w15 : Hid (OwnB lb6 hb6 r6 D w15) := Gb_w14.out.out t15 (by omega)
  have Gk_w15 : Hid (w15.heap[w6.heap.size]? = some (.cells #[.slice p6 B.length c6, .int .i64 F, .slice q6 L.length d6, .int .i64 s] 27)) := (t15.block _ (kboxV Gk_w14.out) (by have := kboxV Gk_w14.out; omega)).trans Gk_w14.out
  clear B_w14 W_w14 Wb_w14 Wk_w14 G_w14 Gb_w14 Gk_w14
  have Gm_w15 : Hid (OwnV la6 ha6 p6 (smarks B.length 1) q6 (rmarks L.length (1 + B.length)) w15) := o15
  clear o15 t15
  have hfb := HF.out
  have hds := HDs.out
  unfold FitV at hfb
  have HM1 : Hid (1 ≤ 1 + B.length + 4 * L.length ∧ 1 + B.length + 4 * L.length ≤ 100000000) := by show _ ∧ _; omega
  have hm1 : decide (((1 + B.length + 4 * L.length : Nat) : Int) < 0) = false := decide_eq_false (by omega)
  have hm2 : decide (((1 + B.length + 4 * L.length + D.length : Nat) : Int) < 0) = false := decide_eq_false (by omega)
  clear hfb hds
  go_wp2_with fail
  refine (mark_ownBk _ _ r6 f6 (1 + B.length + 4 * L.length) D _ HD.out HM1.out.1 (by have := HM1.out.2; omega) Gb_w15.out).mono ?_
  rintro e w16 ⟨rfl, o16, t16⟩
  have s_w16 := t16.size
  have B_w16 : Hid (Below w.heap.size w w16) := B_w15.out.trans (t16.below (by omega) B_w15.out.size)
  have W_w16 : Hid (OwnV la3 ha3 p3 B q3 L w16) := W_w15.out.out t16 (by omega)
  have Wb_w16 : Hid (OwnB lb3 hb3 r3 D w16) := Wb_w15.out.out t16 (by omega)
  have Wk_w16 : Hid (w16.heap[w3.heap.size]? = some (.cells #[.slice p3 B.length c3, .int .i64 F, .slice q3 L.length d3, .int .i64 s] 27)) := (t16.block _ (kboxV Wk_w15.out) (by have := kboxV Wk_w15.out; omega)).trans Wk_w15.out
  have Gk_w16 : Hid (w16.heap[w6.heap.size]? = some (.cells #[.slice p6 B.length c6, .int .i64 F, .slice q6 L.length d6, .int .i64 s] 27)) := (t16.block _ (kboxV Gk_w15.out) (by have := kboxV Gk_w15.out; omega)).trans Gk_w15.out
  have Gm_w16 : Hid (OwnV la6 ha6 p6 (smarks B.length 1) q6 (rmarks L.length (1 + B.length)) w16) := Gm_w15.out.out t16 (by omega)
  clear B_w15 W_w15 Wb_w15 Wk_w15 Gb_w15 Gk_w15 Gm_w15
  have Gn_w16 : Hid (OwnB lb6 hb6 r6 (bmarks D.length (1 + B.length + 4 * L.length)) w16) := o16
  clear o16 t16
  obtain ⟨⟨u0, u1, u2, u3⟩, -⟩ := box4 Gk_w16.out
  go_wp2_with fail
  refine (heldVolume_any _ _ p6 q6 c6 d6 B.length L.length F s _ HF.out.1 HF.out.2 Gm_w16.out).mono ?_
  rintro e w17 ⟨rfl, g17⟩
  clear u0 u1 u2 u3
  have s_w17 := g17.size
  have B_w17 : Hid (Below w.heap.size w w17) := B_w16.out.trans (g17.mono B_w16.out.size)
  have W_w17 : Hid (OwnV la3 ha3 p3 B q3 L w17) := W_w16.out.below g17
  have Wb_w17 : Hid (OwnB lb3 hb3 r3 D w17) := Wb_w16.out.below g17
  have Wk_w17 : Hid (w17.heap[w3.heap.size]? = some (.cells #[.slice p3 B.length c3, .int .i64 F, .slice q3 L.length d3, .int .i64 s] 27)) := (g17.block _ (kboxV Wk_w16.out)).trans Wk_w16.out
  have Gk_w17 : Hid (w17.heap[w6.heap.size]? = some (.cells #[.slice p6 B.length c6, .int .i64 F, .slice q6 L.length d6, .int .i64 s] 27)) := (g17.block _ (kboxV Gk_w16.out)).trans Gk_w16.out
  have Gm_w17 : Hid (OwnV la6 ha6 p6 (smarks B.length 1) q6 (rmarks L.length (1 + B.length)) w17) := Gm_w16.out.below g17
  have Gn_w17 : Hid (OwnB lb6 hb6 r6 (bmarks D.length (1 + B.length + 4 * L.length)) w17) := Gn_w16.out.below g17
  clear B_w16 W_w16 Wb_w16 Wk_w16 Gk_w16 Gm_w16 Gn_w16
  clear g17
  go_wp2_with fail
  refine (heldBoolS_row r6 f6 (1 + B.length + 4 * L.length) D.length _ HD.out HM1.out.1 (by have := HM1.out.2; omega) Gn_w17.out.bs).mono ?_
  rintro e w18 ⟨rfl, g18⟩
  have s_w18 := g18.size
  have B_w18 : Hid (Below w.heap.size w w18) := B_w17.out.trans (g18.mono B_w17.out.size)
  have W_w18 : Hid (OwnV la3 ha3 p3 B q3 L w18) := W_w17.out.below g18
  have Wb_w18 : Hid (OwnB lb3 hb3 r3 D w18) := Wb_w17.out.below g18
  have Wk_w18 : Hid (w18.heap[w3.heap.size]? = some (.cells #[.slice p3 B.length c3, .int .i64 F, .slice q3 L.length d3, .int .i64 s] 27)) := (g18.block _ (kboxV Wk_w17.out)).trans Wk_w17.out
  have Gk_w18 : Hid (w18.heap[w6.heap.size]? = some (.cells #[.slice p6 B.length c6, .int .i64 F, .slice q6 L.length d6, .int .i64 s] 27)) := (g18.block _ (kboxV Gk_w17.out)).trans Gk_w17.out
  have Gm_w18 : Hid (OwnV la6 ha6 p6 (smarks B.length 1) q6 (rmarks L.length (1 + B.length)) w18) := Gm_w17.out.below g18
  have Gn_w18 : Hid (OwnB lb6 hb6 r6 (bmarks D.length (1 + B.length + 4 * L.length)) w18) := Gn_w17.out.below g18
  clear B_w17 W_w17 Wb_w17 Wk_w17 Gk_w17 Gm_w17 Gn_w17
  clear g18
  go_wp2_with fail
  refine (to_ownO a cap l _ HL.out (HZ.out _ B_w18.out)).mono ?_
  rintro e w19 ⟨b19, rfl, o19, g19⟩
  have s_w19 := g19.size
  have B_w19 : Hid (Below w.heap.size w w19) := B_w18.out.trans (g19.mono B_w18.out.size)
  have W_w19 : Hid (OwnV la3 ha3 p3 B q3 L w19) := W_w18.out.below g19
  have Wb_w19 : Hid (OwnB lb3 hb3 r3 D w19) := Wb_w18.out.below g19
  have Wk_w19 : Hid (w19.heap[w3.heap.size]? = some (.cells #[.slice p3 B.length c3, .int .i64 F, .slice q3 L.length d3, .int .i64 s] 27)) := (g19.block _ (kboxV Wk_w18.out)).trans Wk_w18.out
  have Gk_w19 : Hid (w19.heap[w6.heap.size]? = some (.cells #[.slice p6 B.length c6, .int .i64 F, .slice q6 L.length d6, .int .i64 s] 27)) := (g19.block _ (kboxV Gk_w18.out)).trans Gk_w18.out
  have Gm_w19 : Hid (OwnV la6 ha6 p6 (smarks B.length 1) q6 (rmarks L.length (1 + B.length)) w19) := Gm_w18.out.below g19
  have Gn_w19 : Hid (OwnB lb6 hb6 r6 (bmarks D.length (1 + B.length + 4 * L.length)) w19) := Gn_w18.out.below g19
  clear B_w18 W_w18 Wb_w18 Wk_w18 Gk_w18 Gm_w18 Gn_w18
  have T_w19 : Hid (OwnO w18.heap.size w19.heap.size b19 l w19) := o19
  clear o19 g19
  go_wp2_with fail
  refine (H11.out b19 l.length _ T_w19.out.os).mono ?_
  rintro e w20 ⟨p20, c20, q20, d20, r20, f20, rfl, la20, ha20, lb20, hb20, i120, i220, i320, i420, i520, i620, i720, ov20, ob20, g20⟩
  have s_w20 := g20.size
  have B_w20 : Hid (Below w.heap.size w w20) := B_w19.out.trans (g20.mono B_w19.out.size)
  have W_w20 : Hid (OwnV la3 ha3 p3 B q3 L w20) := W_w19.out.below g20
  have Wb_w20 : Hid (OwnB lb3 hb3 r3 D w20) := Wb_w19.out.below g20
  have Wk_w20 : Hid (w20.heap[w3.heap.size]? = some (.cells #[.slice p3 B.length c3, .int .i64 F, .slice q3 L.length d3, .int .i64 s] 27)) := (g20.block _ (kboxV Wk_w19.out)).trans Wk_w19.out
  have Gk_w20 : Hid (w20.heap[w6.heap.size]? = some (.cells #[.slice p6 B.length c6, .int .i64 F, .slice q6 L.length d6, .int .i64 s] 27)) := (g20.block _ (kboxV Gk_w19.out)).trans Gk_w19.out
  have Gm_w20 : Hid (OwnV la6 ha6 p6 (smarks B.length 1) q6 (rmarks L.length (1 + B.length)) w20) := Gm_w19.out.below g20
  have Gn_w20 : Hid (OwnB lb6 hb6 r6 (bmarks D.length (1 + B.length + 4 * L.length)) w20) := Gn_w19.out.below g20
  have T_w20 : Hid (OwnO w18.heap.size w19.heap.size b19 l w20) := T_w19.out.below g20
  clear B_w19 W_w19 Wb_w19 Wk_w19 Gk_w19 Gm_w19 Gn_w19 T_w19
  have Q_w20 : Hid (OwnV la20 ha20 p20 B q20 L w20) := ov20
  have Qb_w20 : Hid (OwnB lb20 hb20 r20 D w20) := ob20
  clear ov20 ob20 g20
  obtain ⟨⟨z00, z01, z02, z03⟩, -⟩ := box4 (((boxB w20 (.cells #[.slice p20 B.length c20, .int .i64 F, .slice q20 L.length d20, .int .i64 s] 27)).block _ (kboxV Wk_w20.out)).trans Wk_w20.out)
  go_wp2_with fail
  clear z00 z01 z02 z03
  have gA := boxB w20 (.cells #[.slice p20 B.length c20, .int .i64 F, .slice q20 L.length d20, .int .i64 s] 27)
  have hA := heap_last w20 (.cells #[.slice p20 B.length c20, .int .i64 F, .slice q20 L.length d20, .int .i64 s] 27)
  have zA : (w20.alloc (.cells #[.slice p20 B.length c20, .int .i64 F, .slice q20 L.length d20, .int .i64 s] 27)).heap.size ≤ w20.heap.size + 1 := Nat.le_of_eq (heap_size _ _)
  have yA : w20.heap.size < (w20.alloc (.cells #[.slice p20 B.length c20, .int .i64 F, .slice q20 L.length d20, .int .i64 s] 27)).heap.size := by simp
  generalize w20.alloc (.cells #[.slice p20 B.length c20, .int .i64 F, .slice q20 L.length d20, .int .i64 s] 27) = w21 at *
  have s_w21 := gA.size
  have B_w21 : Hid (Below w.heap.size w w21) := B_w20.out.trans (gA.mono B_w20.out.size)
  have W_w21 : Hid (OwnV la3 ha3 p3 B q3 L w21) := W_w20.out.below gA
  have Wb_w21 : Hid (OwnB lb3 hb3 r3 D w21) := Wb_w20.out.below gA
  have Wk_w21 : Hid (w21.heap[w3.heap.size]? = some (.cells #[.slice p3 B.length c3, .int .i64 F, .slice q3 L.length d3, .int .i64 s] 27)) := (gA.block _ (kboxV Wk_w20.out)).trans Wk_w20.out
  have Gk_w21 : Hid (w21.heap[w6.heap.size]? = some (.cells #[.slice p6 B.length c6, .int .i64 F, .slice q6 L.length d6, .int .i64 s] 27)) := (gA.block _ (kboxV Gk_w20.out)).trans Gk_w20.out
  have Gm_w21 : Hid (OwnV la6 ha6 p6 (smarks B.length 1) q6 (rmarks L.length (1 + B.length)) w21) := Gm_w20.out.below gA
  have Gn_w21 : Hid (OwnB lb6 hb6 r6 (bmarks D.length (1 + B.length + 4 * L.length)) w21) := Gn_w20.out.below gA
  have T_w21 : Hid (OwnO w18.heap.size w19.heap.size b19 l w21) := T_w20.out.below gA
  have Q_w21 : Hid (OwnV la20 ha20 p20 B q20 L w21) := Q_w20.out.below gA
  have Qb_w21 : Hid (OwnB lb20 hb20 r20 D w21) := Qb_w20.out.below gA
  clear B_w20 W_w20 Wb_w20 Wk_w20 Gk_w20 Gm_w20 Gn_w20 T_w20 Q_w20 Qb_w20
  have Qk_w21 : Hid (w21.heap[w20.heap.size]? = some (.cells #[.slice p20 B.length c20, .int .i64 F, .slice q20 L.length d20, .int .i64 s] 27)) := hA
  have zz21 := zA
  have yy21 := yA
  clear gA hA zA yA
  refine (eqVolume_same p20 q20 p3 q3 c20 d20 c3 d3 B F L s _ HF.out Q_w21.out.read.1 Q_w21.out.read.2 W_w21.out.read.1 W_w21.out.read.2).mono ?_
  rintro e w22 ⟨rfl, g22⟩
  have s_w22 := g22.size
  have B_w22 : Hid (Below w.heap.size w w22) := B_w21.out.trans (g22.mono B_w21.out.size)
  have W_w22 : Hid (OwnV la3 ha3 p3 B q3 L w22) := W_w21.out.below g22
  have Wb_w22 : Hid (OwnB lb3 hb3 r3 D w22) := Wb_w21.out.below g22
  have Wk_w22 : Hid (w22.heap[w3.heap.size]? = some (.cells #[.slice p3 B.length c3, .int .i64 F, .slice q3 L.length d3, .int .i64 s] 27)) := (g22.block _ (kboxV Wk_w21.out)).trans Wk_w21.out
  have Gk_w22 : Hid (w22.heap[w6.heap.size]? = some (.cells #[.slice p6 B.length c6, .int .i64 F, .slice q6 L.length d6, .int .i64 s] 27)) := (g22.block _ (kboxV Gk_w21.out)).trans Gk_w21.out
  have Gm_w22 : Hid (OwnV la6 ha6 p6 (smarks B.length 1) q6 (rmarks L.length (1 + B.length)) w22) := Gm_w21.out.below g22
  have Gn_w22 : Hid (OwnB lb6 hb6 r6 (bmarks D.length (1 + B.length + 4 * L.length)) w22) := Gn_w21.out.below g22
  have T_w22 : Hid (OwnO w18.heap.size w19.heap.size b19 l w22) := T_w21.out.below g22
  have Q_w22 : Hid (OwnV la20 ha20 p20 B q20 L w22) := Q_w21.out.below g22
  have Qb_w22 : Hid (OwnB lb20 hb20 r20 D w22) := Qb_w21.out.below g22
  have Qk_w22 : Hid (w22.heap[w20.heap.size]? = some (.cells #[.slice p20 B.length c20, .int .i64 F, .slice q20 L.length d20, .int .i64 s] 27)) := (g22.block _ (kboxV Qk_w21.out)).trans Qk_w21.out
  clear B_w21 W_w21 Wb_w21 Wk_w21 Gk_w21 Gm_w21 Gn_w21 T_w21 Q_w21 Qb_w21 Qk_w21
  clear g22
  go_wp2_with fail
  refine (eqBoolS_same r20 r3 f20 f3 D _ HD.out Qb_w22.out.bs Wb_w22.out.bs).mono ?_
  rintro e w23 ⟨rfl, g23⟩
  have s_w23 := g23.size
  have B_w23 : Hid (Below w.heap.size w w23) := B_w22.out.trans (g23.mono B_w22.out.size)
  have W_w23 : Hid (OwnV la3 ha3 p3 B q3 L w23) := W_w22.out.below g23
  have Wb_w23 : Hid (OwnB lb3 hb3 r3 D w23) := Wb_w22.out.below g23
  have Wk_w23 : Hid (w23.heap[w3.heap.size]? = some (.cells #[.slice p3 B.length c3, .int .i64 F, .slice q3 L.length d3, .int .i64 s] 27)) := (g23.block _ (kboxV Wk_w22.out)).trans Wk_w22.out
  have Gk_w23 : Hid (w23.heap[w6.heap.size]? = some (.cells #[.slice p6 B.length c6, .int .i64 F, .slice q6 L.length d6, .int .i64 s] 27)) := (g23.block _ (kboxV Gk_w22.out)).trans Gk_w22.out
  have Gm_w23 : Hid (OwnV la6 ha6 p6 (smarks B.length 1) q6 (rmarks L.length (1 + B.length)) w23) := Gm_w22.out.below g23
  have Gn_w23 : Hid (OwnB lb6 hb6 r6 (bmarks D.length (1 + B.length + 4 * L.length)) w23) := Gn_w22.out.below g23
  have T_w23 : Hid (OwnO w18.heap.size w19.heap.size b19 l w23) := T_w22.out.below g23
  have Q_w23 : Hid (OwnV la20 ha20 p20 B q20 L w23) := Q_w22.out.below g23
  have Qb_w23 : Hid (OwnB lb20 hb20 r20 D w23) := Qb_w22.out.below g23
  have Qk_w23 : Hid (w23.heap[w20.heap.size]? = some (.cells #[.slice p20 B.length c20, .int .i64 F, .slice q20 L.length d20, .int .i64 s] 27)) := (g23.block _ (kboxV Qk_w22.out)).trans Qk_w22.out
  clear B_w22 W_w22 Wb_w22 Wk_w22 Gk_w22 Gm_w22 Gn_w22 T_w22 Q_w22 Qb_w22 Qk_w22
  clear g23
  obtain ⟨⟨u0, u1, u2, u3⟩, -⟩ := box4 Gk_w23.out
  go_wp2_with fail
  refine (heldVolume_any _ _ p6 q6 c6 d6 B.length L.length F s _ HF.out.1 HF.out.2 Gm_w23.out).mono ?_
  rintro e w24 ⟨rfl, g24⟩
  clear u0 u1 u2 u3
  have s_w24 := g24.size
  have B_w24 : Hid (Below w.heap.size w w24) := B_w23.out.trans (g24.mono B_w23.out.size)
  have W_w24 : Hid (OwnV la3 ha3 p3 B q3 L w24) := W_w23.out.below g24
  have Wb_w24 : Hid (OwnB lb3 hb3 r3 D w24) := Wb_w23.out.below g24
  have Wk_w24 : Hid (w24.heap[w3.heap.size]? = some (.cells #[.slice p3 B.length c3, .int .i64 F, .slice q3 L.length d3, .int .i64 s] 27)) := (g24.block _ (kboxV Wk_w23.out)).trans Wk_w23.out
  have Gk_w24 : Hid (w24.heap[w6.heap.size]? = some (.cells #[.slice p6 B.length c6, .int .i64 F, .slice q6 L.length d6, .int .i64 s] 27)) := (g24.block _ (kboxV Gk_w23.out)).trans Gk_w23.out
  have Gm_w24 : Hid (OwnV la6 ha6 p6 (smarks B.length 1) q6 (rmarks L.length (1 + B.length)) w24) := Gm_w23.out.below g24
  have Gn_w24 : Hid (OwnB lb6 hb6 r6 (bmarks D.length (1 + B.length + 4 * L.length)) w24) := Gn_w23.out.below g24
  have T_w24 : Hid (OwnO w18.heap.size w19.heap.size b19 l w24) := T_w23.out.below g24
  have Q_w24 : Hid (OwnV la20 ha20 p20 B q20 L w24) := Q_w23.out.below g24
  have Qb_w24 : Hid (OwnB lb20 hb20 r20 D w24) := Qb_w23.out.below g24
  have Qk_w24 : Hid (w24.heap[w20.heap.size]? = some (.cells #[.slice p20 B.length c20, .int .i64 F, .slice q20 L.length d20, .int .i64 s] 27)) := (g24.block _ (kboxV Qk_w23.out)).trans Qk_w23.out
  clear B_w23 W_w23 Wb_w23 Wk_w23 Gk_w23 Gm_w23 Gn_w23 T_w23 Q_w23 Qb_w23 Qk_w23
  clear g24
  go_wp2_with fail
  refine (heldBoolS_row r6 f6 (1 + B.length + 4 * L.length) D.length _ HD.out HM1.out.1 (by have := HM1.out.2; omega) Gn_w24.out.bs).mono ?_
  rintro e w25 ⟨rfl, g25⟩
  have s_w25 := g25.size
  have B_w25 : Hid (Below w.heap.size w w25) := B_w24.out.trans (g25.mono B_w24.out.size)
  have W_w25 : Hid (OwnV la3 ha3 p3 B q3 L w25) := W_w24.out.below g25
  have Wb_w25 : Hid (OwnB lb3 hb3 r3 D w25) := Wb_w24.out.below g25
  have Wk_w25 : Hid (w25.heap[w3.heap.size]? = some (.cells #[.slice p3 B.length c3, .int .i64 F, .slice q3 L.length d3, .int .i64 s] 27)) := (g25.block _ (kboxV Wk_w24.out)).trans Wk_w24.out
  have Gk_w25 : Hid (w25.heap[w6.heap.size]? = some (.cells #[.slice p6 B.length c6, .int .i64 F, .slice q6 L.length d6, .int .i64 s] 27)) := (g25.block _ (kboxV Gk_w24.out)).trans Gk_w24.out
  have Gm_w25 : Hid (OwnV la6 ha6 p6 (smarks B.length 1) q6 (rmarks L.length (1 + B.length)) w25) := Gm_w24.out.below g25
  have Gn_w25 : Hid (OwnB lb6 hb6 r6 (bmarks D.length (1 + B.length + 4 * L.length)) w25) := Gn_w24.out.below g25
  have T_w25 : Hid (OwnO w18.heap.size w19.heap.size b19 l w25) := T_w24.out.below g25
  have Q_w25 : Hid (OwnV la20 ha20 p20 B q20 L w25) := Q_w24.out.below g25
  have Qb_w25 : Hid (OwnB lb20 hb20 r20 D w25) := Qb_w24.out.below g25
  have Qk_w25 : Hid (w25.heap[w20.heap.size]? = some (.cells #[.slice p20 B.length c20, .int .i64 F, .slice q20 L.length d20, .int .i64 s] 27)) := (g25.block _ (kboxV Qk_w24.out)).trans Qk_w24.out
  clear B_w24 W_w24 Wb_w24 Wk_w24 Gk_w24 Gm_w24 Gn_w24 T_w24 Q_w24 Qb_w24 Qk_w24
  clear g25
  go_wp2_with fail
  go_ret
  exact ⟨rfl, B_w25.out⟩
theorem walk_PlayVolume (a : Option Addr) (cap : Nat) (l : List Op) (w : World) (hZ : Os w.heap.size a l w) (hs : ∀ r ∈ l, fitO r) (hl : l.length ≤ 9223372036854775807) :
    Calls Try.prog 3 #[.slice a l.length cap] w fun e w' => e = .returned (.bool true) ∧ Below w.heap.size w w' :=
  law_PlayVolume a cap l w (fun r h => (hs r h).2.2.2.2) hl hZ
end Go.Proofs.Ytlaafcmfddidnaa
namespace Go.Proofs.Ytlaafcmfddidnaa.fnExactPlayVolume
open Go.ChangeShapes Go.WideShapes Go.ChangeAt Go.RowKit
open Go.ChangeMaps (open_string shut_string)
set_option maxRecDepth 100000
theorem own : ownKnob Try.prog.godebug = none := by kernel_rfl
theorem laidOut : laidOutB Try.prog = true := by kernel_rfl
theorem lifted (os : Go.Os) (started : os.Started) (H : Type) (enc : TypeId × Value → H) :
    ReturnsInHanded {} Try.checked os 3 .any (Rows.fnExactPlayVolumeSpec.pre6 enc Try.prog Try.f3 Rows.fnExactPlayVolumeRow.domain false) (Rows.fnExactPlayVolumeSpec.post enc Try.prog Try.f3 false true false false) := by
  refine returnsInHanded_of_change (C := Try.checked) own started (by kernel_rfl) Try.func3
    (ChangeSpec.witness6 (enc := enc) (C := Try.checked) false ⟨#[], #[.slice none 0 0], []⟩ 8 (by kernel_rfl) (by kernel_rfl) (by kernel_rfl) (by kernel_rfl)) ?_
  intro W base args ds gs before hval0 hW hcnd _
  have hval : ∀ (j : Nat) t v, Try.f3.params[j]? = some t → args[j]? = some v → Value.okWide Try.prog W .any base t v := hval0
  have hW' := hW
  obtain ⟨p, q, hA0, hV, rfl, hfz, hnd⟩ := hW
  have hA : DataW.TrodAll enc Try.prog W 0 (fun _ => true) true Try.f3.params.toList args.toList ds p := hA0
  rw [Try.params3] at hA hval
  obtain ⟨v0, vs0, d0, ds0, p0, q0, hargs, rfl, rfl, h0, r0⟩ := trodAll_cons hA
  obtain ⟨rfl, rfl, rfl⟩ := trodAll_nil r0
  obtain rfl : args = #[v0] := by cases args; simp_all
  obtain ⟨rfl, rfl⟩ := trodVars_none hV
  obtain ⟨a0, c0, l0, rfl, hZ0, hs0, hl0⟩ := ops_of Try.underlying22 Try.underlying42 (by kernel_rfl) rfl rfl rfl rfl rfl Try.underlying3 Try.underlying3 Try.underlying3 Try.underlying9 Try.underlying3 (by kernel_rfl) (by kernel_rfl) (by kernel_rfl) (by kernel_rfl) (by kernel_rfl) (hval 0 22 v0 rfl rfl) h0
  clear hA0 hval0
  refine (walk_PlayVolume a0 c0 l0 W hZ0 hs0 hl0).mono fun e W' ⟨he, hg'⟩ => ?_
  subst he
  exact ⟨_, rfl, law_post laidOut (by kernel_rfl) (by kernel_rfl) rfl (trodAll_mk1 (shut_bool Try.underlying4 _)) hW' hg'⟩
end Go.Proofs.Ytlaafcmfddidnaa.fnExactPlayVolume
namespace Go.Proofs.Ytlaafcmfddidnaa
open Go.ChangeShapes Go.WideShapes Go.ChangeAt Go.RowKit
theorem fnExactPlayVolume_said : Rows.FnExactPlayVolumeSaid :=
  OpenClaim.holds_of_wide 3 Try.f3 rfl rfl rfl rfl rfl rfl rfl ⟨rfl, rfl, rfl, rfl, rfl⟩ rfl rfl rfl rfl rfl (by kernel_rfl) Try.func3 (by kernel_rfl)
    (of_decide_eq_true (by kernel_rfl)) (by unfold Func.isWrapper; first | (rw [if_pos (by decide +kernel)]; kernel_rfl) | (rw [if_neg (by decide +kernel)]; exact ⟨rfl, rfl⟩))
    (fun os started H enc _ => fnExactPlayVolume.lifted os started H enc)
end Go.Proofs.Ytlaafcmfddidnaa
