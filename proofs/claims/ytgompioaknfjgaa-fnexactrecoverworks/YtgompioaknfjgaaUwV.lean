/- The model's l14Recover. -/
import Derived.Test.YtgompioaknfjgaaUwS
import Derived.Test.YtgompioaknfjgaaUwH
import Derived.Test.YtgompioaknfjgaaUPut
import Derived.Deep.RegionHeldLaw
namespace Go.Proofs.Ytgompioaknfjgaa
set_option maxRecDepth 100000
open Go Go.ChangeShapes Go.WideShapes Go.ChangeAt Go.RowKit
/-- what was set, done once more -/
def redoF (cs : List Int) : List Nt → List Int
  | [] => cs
  | n :: r => redoF (if n.kd = 2 then cs.set n.cl.toNat n.is else cs) r
theorem redoF_step (cs : List Int) (l : List Nt) (k : Nat) (h : k < l.length) : redoF cs (l.drop k) = redoF (if l[k].kd = 2 then cs.set l[k].cl.toNat l[k].is else cs) (l.drop (k + 1)) := by
  rw [List.drop_eq_getElem_cons h]; rfl
theorem redoF_len (l : List Nt) : ∀ cs, (redoF cs l).length = cs.length := by
  induction l with
  | nil => intro cs; rfl
  | cons n r ih =>
    intro cs
    show (redoF (if n.kd = 2 then cs.set n.cl.toNat n.is else cs) r).length = _
    rw [ih]
    by_cases q : n.kd = 2
    · rw [if_pos q, List.length_set]
    · rw [if_neg q]
/-- the open ones undone from the last back, of the first k notes -/
def undN (l : List Nt) (op : List Int) (cs ov : List Int) : Nat → List Int
  | 0 => cs
  | k + 1 => match l[k]? with
    | none => cs
    | some n => if n.wh ∈ op ∧ ¬ n.wh ∈ ov then undN l op (if n.kd = 2 then cs.set n.cl.toNat n.ws else cs) (if n.kd = 1 then ov ++ [n.wh] else ov) k else undN l op cs ov k
theorem undN_step (l : List Nt) (op cs ov : List Int) (k : Nat) (h : k < l.length) : undN l op cs ov (k + 1) = if l[k].wh ∈ op ∧ ¬ l[k].wh ∈ ov then undN l op (if l[k].kd = 2 then cs.set l[k].cl.toNat l[k].ws else cs) (if l[k].kd = 1 then ov ++ [l[k].wh] else ov) k else undN l op cs ov k := by
  show (match l[k]? with | none => cs | some n => if n.wh ∈ op ∧ ¬ n.wh ∈ ov then undN l op (if n.kd = 2 then cs.set n.cl.toNat n.ws else cs) (if n.kd = 1 then ov ++ [n.wh] else ov) k else undN l op cs ov k) = _
  rw [List.getElem?_eq_getElem h]
def recF (X : Uw) : List Int := undN X.lg (openL X.lg) (redoF X.dk X.lg) [] X.lg.length
theorem noteB_cell {n : Nt} (h : noteB n = true) (h2 : n.kd = 2) : 0 ≤ n.cl ∧ n.cl ≤ 5 := by
  unfold noteB at h
  rw [Bool.and_eq_true, if_pos h2, Bool.and_eq_true] at h
  exact inB_at h.2.1
theorem setI {lo R c : Nat} {l : List Int} {w : World} (h : AL lo (.slice (some ⟨R, 0, none⟩) 6 c) l w) (hk : Nat) (x : Int) : AL lo (.slice (some ⟨R, 0, none⟩) 6 c) (l.set hk x) (w.setCell ⟨R, hk, none⟩ (.int .i64 x)) := by
  have h9 : w.ownsRow lo 3 1 (.slice (some ⟨R, 0, none⟩) 6 c) l.length (ivals l) := h
  unfold AL
  rw [List.length_set]
  obtain ⟨hl, ⟨e, _⟩ | ⟨g, cap, cur, e, h1, hg, h2, h3, h4, h5⟩⟩ := h9
  · cases e
  · injection e with e1 e2 e3
    injection e1 with e1
    injection e1 with e1 _ _
    subst e1; subst e3
    have hi : ivals (l.set hk x) = (ivals l).set hk (.int .i64 x) := by unfold ivals; rw [List.map_set]
    refine ⟨by simp [ivals], Or.inr ⟨R, c, _, by rw [e2], h1, box_set hg hk (.int .i64 x), h2, h3, by simp [h4], ?_⟩⟩
    rw [hi, ← h5, Array.toList_setIfInBounds, List.take_set]
theorem al_cell {lo R c n : Nat} {l : List Int} {w : World} (h : AL lo (.slice (some ⟨R, 0, none⟩) n c) l w) : R < w.heap.size ∧ lo ≤ R ∧ (∀ k, k < l.length → ∃ u, w.cell? ⟨R, k, none⟩ = some u) ∧ ∀ k, w.frozen? ⟨R, k, none⟩ = false := by
  have h9 : w.ownsRow lo 3 1 (.slice (some ⟨R, 0, none⟩) n c) l.length (ivals l) := h
  obtain ⟨hl, ⟨e, _⟩ | ⟨g, cap, cur, e, h1, hg, h2, h3, h4, h5⟩⟩ := h9
  · cases e
  · injection e with e1 e2 e3
    injection e1 with e1
    injection e1 with e1 _ _
    subst e1; subst e3
    refine ⟨kbox hg, h1, fun k hk => ?_, fun k => box_free hg k⟩
    have hs : k < cur.size := by omega
    exact ⟨cur[k], by rw [box_cell hg k]; exact Array.getElem?_eq_getElem hs⟩
structure Rc (w : World) (A : UwA) (X : Uw) (R c : Nat) (cs : List Int) (wr : World) : Prop where
  bel : Below w.heap.size w wr
  x : wr.heap[w.heap.size]? = some (.cells #[.slice A.c X.cl.length A.kc, .slice A.d X.dk.length A.kd, .slice A.l X.lg.length A.kl, .int .i64 X.sr, .slice A.o X.op.length A.ko] 25)
  z : wr.heap[w.heap.size + 1]? = some (.cells #[.slice none 0 0, .slice none 0 0, .slice none 0 0, .int .i64 0, .slice none 0 0] 25)
  al : AL (w.heap.size + 2) (.slice (some ⟨R, 0, none⟩) 6 c) cs wr
  len : cs.length = 6
theorem Rc.low {w : World} {A : UwA} {X : Uw} {R c : Nat} {cs : List Int} {wr : World} (h : Rc w A X R c cs wr) : w.heap.size + 2 ≤ R ∧ R < wr.heap.size := ⟨(al_cell h.al).2.1, (al_cell h.al).1⟩
theorem Rc.on {w : World} {A : UwA} {X : Uw} {R c : Nat} {cs : List Int} {wr w' : World} (h : Rc w A X R c cs wr) (g : Below wr.heap.size wr w') : Rc w A X R c cs w' := by
  have hs := h.low
  exact ⟨h.bel.trans (g.mono h.bel.size), (g.block _ (by omega)).trans h.x, (g.block _ (by omega)).trans h.z, h.al.below g, h.len⟩
theorem Rc.set {w : World} {A : UwA} {X : Uw} {R c : Nat} {cs : List Int} {wr : World} (h : Rc w A X R c cs wr) (k : Nat) (x : Int) : Rc w A X R c (cs.set k x) (wr.setCell ⟨R, k, none⟩ (.int .i64 x)) := by
  have hs := h.low
  exact ⟨setB h.bel _ _ (by omega) _, (keepB _ _ _ _ _ (by omega)).trans h.x, (keepB _ _ _ _ _ (by omega)).trans h.z, setI h.al k x, by rw [List.length_set]; exact h.len⟩
theorem OwnI.keepB {lo hi : Nat} {a : Option Addr} {l : List Int} {w w' : World} (h : OwnI lo hi a l w) (g : Below hi w w') : OwnI lo hi a l w' := by
  rcases h with h | ⟨R, h1, h3, e, hr⟩
  · exact Or.inl h
  · exact Or.inr ⟨R, h1, h3, e, hr.same g.size (g.block R h3)⟩
theorem Rc.onN {w : World} {A : UwA} {X : Uw} {R c N : Nat} {cs : List Int} {wr w' : World} (h : Rc w A X R c cs wr) (g : Below N wr w') (hN : R < N) : Rc w A X R c cs w' := by
  have hs := h.low
  refine ⟨h.bel.trans (g.mono (by omega)), (g.block _ (by omega)).trans h.x, (g.block _ (by omega)).trans h.z, rw_keep h.al (fun k hk => ?_), h.len⟩
  have e : some R = some k := hk
  injection e with e
  subst e
  exact g.block _ hN
theorem al_set {lo R m : Nat} {v x : Value} {l : List Int} {w : World} (h : AL lo v l w) (hR : R < lo) : AL lo v l (w.setCell ⟨R, m, none⟩ x) := by
  refine rw_keep h (fun k hk => keepB _ _ _ _ _ ?_)
  have := (World.ownsRow.lt h k hk).1
  omega
theorem own_set {lo hi R m : Nat} {a : Option Addr} {x : Value} {l : List Int} {w : World} (h : OwnI lo hi a l w) (hR : R < lo) : OwnI lo hi a l (w.setCell ⟨R, m, none⟩ x) :=
  h.out (Out.ofBut ((But.refl R w).setCell m x) (Nat.le_refl _) (Nat.lt_succ_self _)) (Or.inr hR)
theorem is_own {lo hi : Nat} {a : Option Addr} {l : List Int} {w : World} (h : OwnI lo hi a l w) : Is w.heap.size a l w := by
  rcases h with rfl | ⟨R, h1, h3, rfl, hr⟩
  · exact ⟨fun h0 => absurd h0 (by simp)⟩
  · exact hr.sl hr.lt
set_option maxHeartbeats 1000000 in
theorem hasU_any (a : Option Addr) (cap : Nat) (l : List Int) (x : Int) (w : World) (hn : l.length ≤ 1048576) (hZ : Is w.heap.size a l w) :
    Calls Try.prog 71 #[.slice a l.length cap, .int .i64 x] w fun e w' => e = .returned (.bool (decide (x ∈ l))) ∧ w' = w := by
  have HZ := hid hZ
  clear hZ
  obtain ⟨an, han⟩ : ∃ an, decide (x ∈ l) = an := ⟨_, rfl⟩
  rw [han]
  have HAN := hid han
  clear han
  go_enter Try.func71, Try.ntmps71
  go_wp2
  go_loopw [9] (fun i wr => ∃ k : Nat, k ≤ l.length ∧ i = .int .i64 k ∧ (∀ j (h : j < l.length), j < k → l[j] ≠ x) ∧ wr = w) (fun i _ => l.length - (intOf i).toNat)
  case atStart => exact ⟨0, Nat.zero_le _, rfl, (fun _ _ h => absurd h (Nat.not_lt_zero _)), rfl⟩
  case round =>
    obtain ⟨k, hk, rfl, hall, hwr⟩ := hrel
    subst hwr
    have HALL := hid hall
    clear hall
    by_cases hlt : k < l.length
    · obtain ⟨b, off, rfl, hb, hc⟩ := HZ.out.cell (by omega)
      have x0 := hc k hlt
      clear hc
      by_cases hx : l[k] = x
      · have ha : an = true := by rw [← HAN.out]; exact decide_eq_true (by rw [← hx]; exact List.getElem_mem hlt)
        subst ha
        have hd : (l[k] == x) = true := by simpa using hx
        clear hx
        generalize l[k] = y at *
        go_wp2
        go_ret
        exact ⟨rfl, rfl⟩
      · have HL : Hid (∀ j (h : j < l.length), j < k + 1 → l[j] ≠ x) := fun j hj hjk => by
          by_cases e : j = k
          · subst e; exact hx
          · exact HALL.out j hj (by omega)
        have hd : (l[k] == x) = false := by simpa using hx
        clear hx
        generalize l[k] = y at *
        go_wp2
        go_roundw
        case rel => exact ⟨k + 1, by omega, by go_num, HL.out, by trivial⟩
        case measure => simp [intOf]; omega
    · obtain rfl : k = l.length := by omega
      have ha : an = false := by
        rw [← HAN.out]
        refine decide_eq_false fun hm => ?_
        obtain ⟨j, hj, e⟩ := List.getElem_of_mem hm
        exact HALL.out j hj hj e
      subst ha
      go_wp2
      go_ret
      exact ⟨rfl, rfl⟩
set_option maxHeartbeats 8000000 in
theorem srec_any (A : UwA) (X : Uw) (w : World) (hf : UwFit X) (h : UwR w.heap.size A X w) (hN : X.lg.all noteB = true) (hD : X.dk.length = 6) (h60 : X.lg.length ≤ 60) :
    Calls Try.prog 60 #[.agg #[.slice A.c X.cl.length A.kc, .slice A.d X.dk.length A.kd, .slice A.l X.lg.length A.kl, .int .i64 X.sr, .slice A.o X.op.length A.ko]] w fun e w' => ∃ p q cp cq : Nat, e = .returned (.agg #[.slice (some ⟨p, 0, none⟩) 6 cp, .slice (some ⟨q, 0, none⟩) 6 cq, .slice none 0 0, .int .i64 0, .slice none 0 0]) ∧ AL w.heap.size (.slice (some ⟨p, 0, none⟩) 6 cp) (recF X) w' ∧ AL w.heap.size (.slice (some ⟨q, 0, none⟩) 6 cq) (recF X) w' ∧ p ≠ q ∧ (recF X).length = 6 ∧ Below w.heap.size w w' := by
  obtain ⟨W, hW⟩ : ∃ W, W = (w.alloc (.cells #[.slice A.c X.cl.length A.kc, .slice A.d X.dk.length A.kd, .slice A.l X.lg.length A.kl, .int .i64 X.sr, .slice A.o X.op.length A.ko] 25)).alloc (.cells #[.slice none 0 0, .slice none 0 0, .slice none 0 0, .int .i64 0, .slice none 0 0] 25) := ⟨_, rfl⟩
  have hb : Below w.heap.size w W := by rw [hW]; exact (boxB w _).trans ((boxB _ _).mono (boxB w _).size)
  have hx : W.heap[w.heap.size]? = some (.cells #[.slice A.c X.cl.length A.kc, .slice A.d X.dk.length A.kd, .slice A.l X.lg.length A.kl, .int .i64 X.sr, .slice A.o X.op.length A.ko] 25) := by rw [hW, Below.heap_alloc _ _ _ (by simp)]; exact heap_last _ _
  have hz : W.heap[w.heap.size + 1]? = some (.cells #[.slice none 0 0, .slice none 0 0, .slice none 0 0, .int .i64 0, .slice none 0 0] 25) := by rw [hW]; exact heap_last2 _ _ _
  have hs : W.heap.size = w.heap.size + 2 := by rw [hW]; simp
  have HZ : Hid (∀ v, Below w.heap.size w v → UwR v.heap.size A X v) := fun v g => h.up g g.size
  have hd1 : Below W.heap.size W (W.alloc (.cells #[] 3)) := boxB W _
  have hdk := (HZ.out _ (hb.trans (hd1.mono hb.size))).d
  obtain ⟨v1, w1, r1, o1, g1, -⟩ := (AL.lit W).app (boxB W (.cells #[] 3)).size A.d A.kd X.dk hdk (by simp; omega)
  have b1 : Below W.heap.size W w1 := hd1.trans g1
  have HS1 : Hid (∀ v, Below W.heap.size W v → v.cell? ⟨w.heap.size, 1, none⟩ = some (.slice A.d X.dk.length A.kd)) := fun v g => box_cell ((g.block _ (by omega)).trans hx) 1
  have HW1 := hid hd1
  have HW2 := hid b1
  rw [List.nil_append] at o1
  obtain ⟨e, h0⟩ | ⟨R, c, e, hc, hR⟩ := o1.form
  · rw [h0] at hD; cases hD
  rw [hD] at e
  subst e
  have HRC : Hid (Rc w A X R c X.dk w1) := by
    exact ⟨hb.trans (b1.mono hb.size), (b1.block _ (by omega)).trans hx, (b1.block _ (by omega)).trans hz, by rw [← hs]; exact o1, hD⟩
  have HNT := hid hN
  have HF := hid hf
  have n2 := hf.l
  have HX := hid hx
  have x1 := box_cell hx 1
  have HSZ := hid hs
  have HRF : Hid (redoF X.dk X.lg = redoF X.dk (X.lg.drop 0)) := rfl
  have HD := hid hD
  clear hb hx hz hs hdk o1 g1 hc hR h hf hN hD hd1 b1
  go_enter Try.func60, Try.ntmps60
  go_upto_region 1 with fail
  rw [← hW]
  clear hW
  clear x1
  have y1 := HS1.out _ HW1.out
  have x2 := box_cell HRC.out.x 2
  go_wp2_with (at_builtin; refine wpList_append_run rfl (.tmp 10) (.tmp 12) 22 rfl _ _ rfl rfl _ _ r1 ?_)
  clear y1 r1 HS1 HW1 HW2
  go_loopw [17] (fun i wr => ∃ (k : Nat) (cs : List Int), k ≤ X.lg.length ∧ i = .int .i64 k ∧ Rc w A X R c cs wr ∧ redoF cs (X.lg.drop k) = redoF X.dk X.lg) (fun i _ => X.lg.length - (intOf i).toNat)
  case atStart => exact ⟨0, _, Nat.zero_le _, rfl, HRC.out, rfl⟩
  case round =>
    obtain ⟨k, cs, hk, rfl, hrc, hre⟩ := hrel
    have HR := hid hrc
    have HE := hid hre
    clear hrc hre x2
    by_cases hlt : k < X.lg.length
    · obtain ⟨b, off, eb, hb, hc⟩ := (HZ.out wr HR.out.bel).l.cell (by omega)
      obtain ⟨y0, y1, y2, y3, y4⟩ := hc k hlt
      have hnb := all_at HNT.out k hlt
      have HCL : Hid (X.lg[k].kd = 2 → 0 ≤ X.lg[k].cl ∧ X.lg[k].cl ≤ 5) := noteB_cell hnb
      have HS : Hid (redoF (if X.lg[k].kd = 2 then cs.set X.lg[k].cl.toNat X.lg[k].is else cs) (X.lg.drop (k + 1)) = redoF X.dk X.lg) := by
        show redoF _ _ = _
        rw [← redoF_step cs X.lg k hlt]; exact HE.out
      rw [eb]
      clear hc eb hnb HE
      generalize X.lg[k].kd = p0 at *
      generalize X.lg[k].wh = p1 at *
      generalize X.lg[k].cl = p2 at *
      generalize X.lg[k].ws = p3 at *
      generalize X.lg[k].is = p4 at *
      have HR2 := hid (HR.out.on (boxB wr (.cells #[.int .i64 p0, .int .i64 p1, .int .i64 p2, .int .i64 p3, .int .i64 p4] 67)))
      have HL2 := hid (heap_last wr (.cells #[.int .i64 p0, .int .i64 p1, .int .i64 p2, .int .i64 p3, .int .i64 p4] 67))
      go_upto_region 5 with fail
      generalize wr.alloc (.cells #[.int .i64 p0, .int .i64 p1, .int .i64 p2, .int .i64 p3, .int .i64 p4] 67) = W2 at *
      have z0 := box_cell HL2.out 0
      have z2 := box_cell HL2.out 2
      have z4 := box_cell HL2.out 4
      clear y0 y1 y2 y3 y4
      by_cases q2 : p0 = 2
      · have g3 : (p0 == 2) = true := beq_iff_eq.2 q2
        have g4 : decide (p0 = 2) = true := decide_eq_true q2
        obtain ⟨c0, c5⟩ := HCL.out q2
        obtain ⟨m, rfl⟩ : ∃ m : Nat, p2 = (m : Int) := ⟨p2.toNat, by omega⟩
        have hm : m < 6 := by omega
        have HS2 : Hid (redoF (cs.set m p4) (X.lg.drop (k + 1)) = redoF X.dk X.lg) := by
          show redoF _ _ = _
          rw [← HS.out, if_pos q2, Int.toNat_natCast]
        obtain ⟨u, hu⟩ := (al_cell HR2.out.al).2.2.1 m (by rw [HR2.out.len]; exact hm)
        have hfr := (al_cell HR2.out.al).2.2.2 m
        have HR3 := hid (HR2.out.set m p4)
        clear q2 HS HCL c0 c5
        go_wp2_with fail
        go_roundw
        case rel => exact ⟨k + 1, _, by omega, by go_num, HR3.out, HS2.out⟩
        case measure => simp [intOf]; omega
      · have g3 : (p0 == 2) = false := beq_eq_false_iff_ne.2 q2
        have g4 : decide (p0 = 2) = false := decide_eq_false q2
        have HS2 : Hid (redoF cs (X.lg.drop (k + 1)) = redoF X.dk X.lg) := by
          show redoF _ _ = _
          rw [← HS.out, if_neg q2]
        clear q2 HS HCL
        go_wp2_with fail
        go_roundw
        case rel => exact ⟨k + 1, _, by omega, by go_num, HR2.out, HS2.out⟩
        case measure => simp [intOf]; omega
    obtain rfl : k = X.lg.length := by omega
    have HCS : Hid (cs = redoF X.dk X.lg) := by show cs = _; rw [← HE.out, List.drop_length]; rfl
    clear HE hlt hk HRC HRF
    have HOP := hid (sopen_any A.l A.kl X.lg wr n2 (HZ.out wr HR.out.bel).l)
    have x2 := box_cell HR.out.x 2
    go_wp2_with fail
    refine HOP.out.mono ?_
    rintro e w3 ⟨vq, rfl, hq, b3⟩
    obtain ⟨q, cq, rfl, hqo, hqc⟩ := hq.own
    have hR1 := HR.out.low
    have HR3 := hid (HR.out.on b3)
    have HN := hid hR1.2
    have HNN := hid b3.size
    have HQ3 := hid hqo
    obtain ⟨N0, hN0⟩ : ∃ N0, N0 = wr.heap.size := ⟨_, rfl⟩
    obtain ⟨N, hN⟩ : ∃ N, N = w3.heap.size := ⟨_, rfl⟩
    rw [← hN0, ← hN] at HQ3
    rw [← hN0] at HN
    rw [← hN0, ← hN] at HNN
    have HNE := hid hN
    have hol : (openL X.lg).length ≤ 1048576 := Nat.le_trans (openK_len X.lg 9) (by decide)
    have HRL : Hid (recF X = undN X.lg (openL X.lg) (redoF X.dk X.lg) [] X.lg.length) := rfl
    rw [HCS.out] at HR3
    generalize openL X.lg = OP at *
    generalize redoF X.dk X.lg = CS at *
    have x2 := box_cell HR3.out.x 2
    clear HOP HCS HR b3 hq hqo hqc hR1 hN0 hN
    go_upto_region 11 with fail
    go_loopw [7, 8] (fun o i wr => ∃ (k : Nat) (cs ov : List Int), k ≤ X.lg.length ∧ i = .int .i64 ((k : Int) - 1) ∧ Rc w A X R c cs wr ∧ AL N o ov wr ∧ OwnI N0 N q OP wr ∧ N ≤ wr.heap.size ∧ ov.length + k ≤ X.lg.length ∧ undN X.lg OP cs ov k = undN X.lg OP CS [] X.lg.length) (fun _ i _ => (intOf i + 1).toNat)
    case atStart => exact ⟨X.lg.length, CS, [], Nat.le_refl _, by first | rfl | (congr 1; unfold wrap64; omega), HR3.out, AL.nil _ _, HQ3.out, Nat.le_of_eq HNE.out, by simp, rfl⟩
    case round =>
      obtain ⟨k, cs, ov, hk, rfl, hrc, hal, hqo, hN1, hln, hun⟩ := hrel
      have HR := hid hrc
      have HAL := hid hal
      have HQ := hid hqo
      have HU := hid hun
      have HLN := hid hln
      clear hrc hal hqo hun hln x2 HR3 HQ3
      cases k with
      | zero =>
        have d1 : decide ((0 : Int) ≤ ((0 : Nat) : Int) - 1) = false := by decide
        have HCS : Hid (recF X = cs) := HRL.out.trans HU.out.symm
        clear HU HRL HQ HAL
        have hb0 := boxB wr (.cells #[] 3)
        obtain ⟨b5, c6, e5, ho5, hc5⟩ := HR.out.al.own
        have hlen := HR.out.len
        have HIS : Is wr.heap.size (some ⟨R, 0, none⟩) cs wr := by
          injection e5 with e5 _ _
          rw [e5]; exact ho5.is
        obtain ⟨v5, w5, r5, o5, g5, -⟩ := (AL.lit wr).app hb0.size (some ⟨R, 0, none⟩) c cs ((HIS.below hb0).mono hb0.size) (by simp; omega)
        rw [List.nil_append] at o5
        obtain ⟨e, h0⟩ | ⟨R5, k5, e, hk5, hR5⟩ := o5.form
        · rw [h0] at hlen; cases hlen
        rw [hlen] at e r5
        subst e
        have B5 := hb0.trans g5
        have HR5 := hid (HR.out.on B5)
        have HO5 := hid o5
        have hlow := HR.out.low
        have hne : R ≠ R5 := by omega
        have HBX := hid (Uwbox HR5.out.z)
        obtain ⟨⟨a0, a1, a2, a3, a4⟩, f0, f1, f2, f3, f4⟩ := HBX.out
        clear e5 ho5 hc5 HIS o5 g5 hb0 B5 hk5 HBX
        go_wp2_with (at_builtin; refine wpList_append_run rfl (.tmp 76) (.tmp 77) 22 rfl _ _ rfl rfl _ _ r5 ?_)
        have hfill := Uwbox (Uwfill HR5.out.z (.slice (some ⟨R, 0, none⟩) 6 c) (.slice (some ⟨R5, 0, none⟩) 6 k5) (.slice none 0 0) (.int .i64 0) (.slice none 0 0))
        obtain ⟨⟨q0, q1, q2, q3, q4⟩, -⟩ := hfill
        have hal1 := al_set (m := 4) (x := .slice none 0 0) (al_set (m := 3) (x := .int .i64 0) (al_set (m := 2) (x := .slice none 0 0) (al_set (m := 1) (x := .slice (some ⟨R5, 0, none⟩) 6 k5) (al_set (m := 0) (x := .slice (some ⟨R, 0, none⟩) 6 c) HR5.out.al (Nat.lt_succ_self (w.heap.size + 1))) (Nat.lt_succ_self (w.heap.size + 1))) (Nat.lt_succ_self (w.heap.size + 1))) (Nat.lt_succ_self (w.heap.size + 1))) (Nat.lt_succ_self (w.heap.size + 1))
        have hS5 : w.heap.size + 1 < wr.heap.size := by omega
        have hal2 := al_set (m := 4) (x := .slice none 0 0) (al_set (m := 3) (x := .int .i64 0) (al_set (m := 2) (x := .slice none 0 0) (al_set (m := 1) (x := .slice (some ⟨R5, 0, none⟩) 6 k5) (al_set (m := 0) (x := .slice (some ⟨R, 0, none⟩) 6 c) HO5.out hS5) hS5) hS5) hS5) hS5
        refine bodyPost_ret (v := .agg #[.slice (some ⟨R, 0, none⟩) 6 c, .slice (some ⟨R5, 0, none⟩) 6 k5, .slice none 0 0, .int .i64 0, .slice none 0 0]) (by simp [results, Try.results60, go_sem, q0, q1, q2, q3, q4]) rfl ?_
        exact ⟨R, R5, c, k5, rfl, by rw [HCS.out]; exact hal1.mono (by omega), by rw [HCS.out]; exact hal2.mono (by omega), hne, by rw [HCS.out]; exact hlen, Uwfill_below HR5.out.bel (Nat.le_succ _) _ _ _ _ _⟩
      | succ j =>
        have hj : j < X.lg.length := hk
        have ej : (((j + 1 : Nat) : Int) - 1) = (j : Int) := by omega
        have d1 : decide ((0 : Int) ≤ (j : Int)) = true := decide_eq_true (by omega)
        have x2 := box_cell HR.out.x 2
        obtain ⟨b, off, eb, hb, hc⟩ := (HZ.out wr HR.out.bel).l.cell (by omega)
        obtain ⟨y0, y1, y2, y3, y4⟩ := hc j hj
        have hnb := all_at HNT.out j hj
        have HCL : Hid (X.lg[j].kd = 2 → 0 ≤ X.lg[j].cl ∧ X.lg[j].cl ≤ 5) := noteB_cell hnb
        have HS : Hid ((if X.lg[j].wh ∈ OP ∧ ¬ X.lg[j].wh ∈ ov then undN X.lg OP (if X.lg[j].kd = 2 then cs.set X.lg[j].cl.toNat X.lg[j].ws else cs) (if X.lg[j].kd = 1 then ov ++ [X.lg[j].wh] else ov) j else undN X.lg OP cs ov j) = undN X.lg OP CS [] X.lg.length) := (undN_step X.lg OP cs ov j hj).symm.trans HU.out
        rw [ej]
        clear hc hnb HU
        generalize X.lg[j].kd = p0 at *
        generalize X.lg[j].wh = p1 at *
        generalize X.lg[j].cl = p2 at *
        generalize X.lg[j].ws = p3 at *
        generalize X.lg[j].is = p4 at *
        rw [eb] at x2 ⊢
        clear eb
        have HR2 := hid (HR.out.on (boxB wr (.cells #[.int .i64 p0, .int .i64 p1, .int .i64 p2, .int .i64 p3, .int .i64 p4] 67)))
        have HA2 := hid (HAL.out.below (boxB wr (.cells #[.int .i64 p0, .int .i64 p1, .int .i64 p2, .int .i64 p3, .int .i64 p4] 67)))
        have HQ2 := hid (HQ.out.keepB ((boxB wr (.cells #[.int .i64 p0, .int .i64 p1, .int .i64 p2, .int .i64 p3, .int .i64 p4] 67)).mono hN1))
        have HN2 := hid (Nat.le_trans hN1 (boxB wr (.cells #[.int .i64 p0, .int .i64 p1, .int .i64 p2, .int .i64 p3, .int .i64 p4] 67)).size)
        have HL2 := hid (heap_last wr (.cells #[.int .i64 p0, .int .i64 p1, .int .i64 p2, .int .i64 p3, .int .i64 p4] 67))
        have HVO := hid (World.ownsRow.lt HAL.out)
        obtain ⟨Z, hZ⟩ : ∃ Z, Z = wr.heap.size := ⟨_, rfl⟩
        go_upto_region 14 with fail
        rw [← hZ] at HL2 HVO ⊢
        clear hZ
        generalize wr.alloc (.cells #[.int .i64 p0, .int .i64 p1, .int .i64 p2, .int .i64 p3, .int .i64 p4] 67) = W2 at *
        have z0 := box_cell HL2.out 0
        have z1 := box_cell HL2.out 1
        have z2 := box_cell HL2.out 2
        have z3 := box_cell HL2.out 3
        clear y0 y1 y2 y3 y4 x2 HR HAL HQ hN1
        have HH1 := hid (hasU_any q cq OP p1 W2 hol (is_own HQ2.out))
        by_cases hin : p1 ∈ OP
        case neg =>
          rw [decide_eq_false hin] at HH1
          have HS2 : Hid (undN X.lg OP cs ov j = undN X.lg OP CS [] X.lg.length) := by
            show undN _ _ _ _ _ = _
            rw [← HS.out, if_neg (fun h => hin h.1)]
          clear hin HS
          go_wp2_with fail
          refine HH1.out.mono ?_
          rintro e v ⟨rfl, rfl⟩
          go_wp2_with fail
          go_roundw
          case rel => exact ⟨j, cs, ov, by omega, by first | rfl | (congr 1; unfold wrap64; omega), HR2.out, HA2.out, HQ2.out, HN2.out, by have := HLN.out; (try rw [List.length_append]); (try simp only [List.length_singleton]); omega, HS2.out⟩
          case measure => simp [intOf]; try omega
        rw [decide_eq_true hin] at HH1
        obtain ⟨b2, c2, rfl, ho2, hc2⟩ := HA2.out.own
        have HH2 := hid (hasU_any b2 c2 ov p1 W2 (by have := HLN.out; omega) ho2.is)
        clear ho2 hc2
        by_cases hov : p1 ∈ ov
        · rw [decide_eq_true hov] at HH2
          have HS2 : Hid (undN X.lg OP cs ov j = undN X.lg OP CS [] X.lg.length) := by
            show undN _ _ _ _ _ = _
            rw [← HS.out, if_neg (fun h => h.2 hov)]
          clear hin hov HS
          go_wp2_with fail
          refine HH1.out.mono ?_
          rintro e v ⟨rfl, rfl⟩
          go_wp2_with fail
          refine HH2.out.mono ?_
          rintro e v ⟨rfl, rfl⟩
          go_wp2_with fail
          go_roundw
          case rel => exact ⟨j, cs, ov, by omega, by first | rfl | (congr 1; unfold wrap64; omega), HR2.out, HA2.out, HQ2.out, HN2.out, by have := HLN.out; (try rw [List.length_append]); (try simp only [List.length_singleton]); omega, HS2.out⟩
          case measure => simp [intOf]; try omega
        rw [decide_eq_false hov] at HH2
        have HS2 : Hid (undN X.lg OP (if p0 = 2 then cs.set p2.toNat p3 else cs) (if p0 = 1 then ov ++ [p1] else ov) j = undN X.lg OP CS [] X.lg.length) := by
          show undN _ _ _ _ _ = _
          rw [← HS.out, if_pos (⟨hin, hov⟩ : p1 ∈ OP ∧ ¬ p1 ∈ ov)]
        clear hin hov HS
        by_cases q1 : p0 = 1
        · have g1 : (p0 == 1) = true := beq_iff_eq.2 q1
          have g2 : decide (p0 = 1) = true := decide_eq_true q1
          have n2' : p0 ≠ 2 := by omega
          have g3 : (p0 == 2) = false := beq_eq_false_iff_ne.2 n2'
          have g4 : decide (p0 = 2) = false := decide_eq_false n2'
          have HS3 : Hid (undN X.lg OP cs (ov ++ [p1]) j = undN X.lg OP CS [] X.lg.length) := by
            show undN _ _ _ _ _ = _
            rw [← HS2.out, if_pos q1, if_neg n2']
          obtain ⟨v', w', r1, o1, gb1, -, gb, -⟩ := HA2.out.push HN2.out p1 (by have := HLN.out; omega)
          have hw0 : w'.heap[Z]? = W2.heap[Z]? := (gb.block Z (by simp; have := kbox HL2.out; omega) (fun e => by have := (HVO.out Z e.symm).2; omega)).trans (Below.heap_alloc _ _ _ (kbox HL2.out))
          have z5 := box_cell (hw0.trans HL2.out) 0
          have HR3 := hid (HR2.out.onN gb1 (Nat.lt_of_lt_of_le HN.out HNN.out))
          have HQ3 := hid (HQ2.out.keepB gb1)
          have HN3 := hid (Nat.le_trans HN2.out gb1.size)
          have HA3 := hid o1
          clear q1 n2' HS2 gb1 gb hw0 o1
          go_wp2_with fail
          refine HH1.out.mono ?_
          rintro e v ⟨rfl, rfl⟩
          go_wp2_with fail
          refine HH2.out.mono ?_
          rintro e v ⟨rfl, rfl⟩
          go_wp2_with (at_builtin; refine wpList_append_run rfl (.tmp 61) (.tmp 64) 22 rfl _ _ rfl rfl _ _ r1 ?_)
          go_roundw
          case rel => exact ⟨j, cs, _, by omega, by first | rfl | (congr 1; unfold wrap64; omega), HR3.out, HA3.out, HQ3.out, HN3.out, by have := HLN.out; (try rw [List.length_append]); (try simp only [List.length_singleton]); omega, HS3.out⟩
          case measure => simp [intOf]; try omega
        have g1 : (p0 == 1) = false := beq_eq_false_iff_ne.2 q1
        have g2 : decide (p0 = 1) = false := decide_eq_false q1
        by_cases q2 : p0 = 2
        · have g3 : (p0 == 2) = true := beq_iff_eq.2 q2
          have g4 : decide (p0 = 2) = true := decide_eq_true q2
          obtain ⟨c0, c5⟩ := HCL.out q2
          obtain ⟨m, rfl⟩ : ∃ m : Nat, p2 = (m : Int) := ⟨p2.toNat, by omega⟩
          have hm : m < 6 := by omega
          have HS3 : Hid (undN X.lg OP (cs.set m p3) ov j = undN X.lg OP CS [] X.lg.length) := by
            show undN _ _ _ _ _ = _
            rw [← HS2.out, if_neg q1, if_pos q2, Int.toNat_natCast]
          obtain ⟨u, hu⟩ := (al_cell HR2.out.al).2.2.1 m (by rw [HR2.out.len]; exact hm)
          have hfr := (al_cell HR2.out.al).2.2.2 m
          have HR3 := hid (HR2.out.set m p3)
          have HA3 : Hid (AL N _ ov (W2.setCell ⟨R, m, none⟩ (.int .i64 p3))) := al_set HA2.out (Nat.lt_of_lt_of_le HN.out HNN.out)
          have HQ3 : Hid (OwnI N0 N q OP (W2.setCell ⟨R, m, none⟩ (.int .i64 p3))) := own_set HQ2.out HN.out
          have HN3 : Hid (N ≤ (W2.setCell ⟨R, m, none⟩ (.int .i64 p3)).heap.size) := Nat.le_trans HN2.out (setB (Below.refl R W2) R m (Nat.le_refl _) _).size
          clear q1 q2 HS2 HCL c0 c5
          go_wp2_with fail
          refine HH1.out.mono ?_
          rintro e v ⟨rfl, rfl⟩
          go_wp2_with fail
          refine HH2.out.mono ?_
          rintro e v ⟨rfl, rfl⟩
          go_wp2_with fail
          go_roundw
          case rel => exact ⟨j, _, ov, by omega, by first | rfl | (congr 1; unfold wrap64; omega), HR3.out, HA3.out, HQ3.out, HN3.out, by have := HLN.out; (try rw [List.length_append]); (try simp only [List.length_singleton]); omega, HS3.out⟩
          case measure => simp [intOf]; try omega
        · have g3 : (p0 == 2) = false := beq_eq_false_iff_ne.2 q2
          have g4 : decide (p0 = 2) = false := decide_eq_false q2
          have HS3 : Hid (undN X.lg OP cs ov j = undN X.lg OP CS [] X.lg.length) := by
            show undN _ _ _ _ _ = _
            rw [← HS2.out, if_neg q1, if_neg q2]
          clear q1 q2 HS2 HCL
          go_wp2_with fail
          refine HH1.out.mono ?_
          rintro e v ⟨rfl, rfl⟩
          go_wp2_with fail
          refine HH2.out.mono ?_
          rintro e v ⟨rfl, rfl⟩
          go_wp2_with fail
          go_roundw
          case rel => exact ⟨j, cs, ov, by omega, by first | rfl | (congr 1; unfold wrap64; omega), HR2.out, HA2.out, HQ2.out, HN2.out, by have := HLN.out; (try rw [List.length_append]); (try simp only [List.length_singleton]); omega, HS3.out⟩
          case measure => simp [intOf]; try omega
end Go.Proofs.Ytgompioaknfjgaa
