/- What makes works good, in plain Bools; the model's small functions. -/
import Derived.Test.YtgompioaknfjgabUwW
import Derived.Test.YtgompioaknfjgabAApp
import Derived.BigQuiet
import Derived.Deep.QuietTactic
import Derived.Deep.DeepCutAuto
namespace Go.Proofs.Ytgompioaknfjgab
set_option maxRecDepth 100000
open Go Go.ChangeShapes Go.WideShapes Go.ChangeAt Go.RowKit
theorem val_b {a b : Bool} (h : a = b) : Value.bool a = .bool b := by rw [h]
def inB (lo hi x : Int) : Bool := decide (lo ≤ x) && decide (x ≤ hi)
theorem inB_yes {lo hi x : Int} (h1 : lo ≤ x) (h2 : x ≤ hi) : inB lo hi x = true := by unfold inB; rw [decide_eq_true h1, decide_eq_true h2]; rfl
theorem inB_no {lo hi x : Int} (h : x < lo ∨ hi < x) : inB lo hi x = false := by
  unfold inB
  rcases h with h | h
  · rw [decide_eq_false (by omega)]; rfl
  · rw [decide_eq_false (p := x ≤ hi) (by omega)]; simp
theorem inB_at {lo hi x : Int} (h : inB lo hi x = true) : lo ≤ x ∧ x ≤ hi := by unfold inB at h; simpa using h
theorem all_bad {α : Type} {L : List α} {p : α → Bool} {k : Nat} (h : k < L.length) (hb : p L[k] = false) : L.all p = false := by
  rw [List.all_eq_false]; exact ⟨L[k], List.getElem_mem h, by rw [hb]; decide⟩
theorem all_all {α : Type} {L : List α} {p : α → Bool} (h : ∀ j (hj : j < L.length), p L[j] = true) : L.all p = true := by
  rw [List.all_eq_true]; intro x hx
  obtain ⟨j, hj, rfl⟩ := List.getElem_of_mem hx
  exact h j hj
theorem all_at {α : Type} {L : List α} {p : α → Bool} (h : L.all p = true) (j : Nat) (hj : j < L.length) : p L[j] = true := by
  rw [List.all_eq_true] at h; exact h _ (List.getElem_mem hj)
theorem rng_bad {n : Nat} {p : Nat → Bool} {k : Nat} (h : k < n) (hb : p k = false) : (List.range n).all p = false := by
  rw [List.all_eq_false]; exact ⟨k, List.mem_range.2 h, by rw [hb]; decide⟩
theorem rng_all {n : Nat} {p : Nat → Bool} (h : ∀ j, j < n → p j = true) : (List.range n).all p = true := by
  rw [List.all_eq_true]; intro x hx; exact h x (List.mem_range.1 hx)
theorem rng_at {n : Nat} {p : Nat → Bool} (h : (List.range n).all p = true) (j : Nat) (hj : j < n) : p j = true := by
  rw [List.all_eq_true] at h; exact h _ (List.mem_range.2 hj)
theorem getD_in {α : Type} (l : List α) (k : Nat) (d : α) (h : k < l.length) : l.getD k d = l[k] := by
  rw [List.getD_eq_getElem?_getD, List.getElem?_eq_getElem h]; rfl
theorem l1In_b (x lo hi : Int) (w : World) : Calls Try.prog 12 #[.int .i64 x, .int .i64 lo, .int .i64 hi] w fun e w' => e = .returned (.bool (inB lo hi x)) ∧ w' = w := by
  by_cases h : lo ≤ x ∧ x ≤ hi
  · rw [inB_yes h.1 h.2]; exact l1In_yes _ _ _ _ h.1 h.2
  · rw [inB_no (by omega)]; exact l1In_no _ _ _ _ (by omega)
def noteB (n : Nt) : Bool := inB 1 9 n.wh && (if n.kd = 2 then inB 0 5 n.cl && (inB 0 1000 n.ws && inB 0 1000 n.is) else (decide (n.kd = 1) || (decide (n.kd = 3) || decide (n.kd = 4))) && (decide (n.cl = 0) && (decide (n.ws = 0) && decide (n.is = 0))))
def cellsB (l : List Int) : Bool := decide (l.length = 6) && allIn l 0 1000
/-- whether one is open behind a log -/
def openF (who : Int) : Bool → List Nt → Bool
  | b, [] => b
  | b, n :: r => if n.wh = who then (if n.kd = 1 then openF who true r else if n.kd = 3 ∨ n.kd = 4 then openF who false r else openF who b r) else openF who b r
theorem openF_step (who : Int) (b : Bool) (l : List Nt) (k : Nat) (h : k < l.length) : openF who b (l.drop k) = if l[k].wh = who then (if l[k].kd = 1 then openF who true (l.drop (k + 1)) else if l[k].kd = 3 ∨ l[k].kd = 4 then openF who false (l.drop (k + 1)) else openF who b (l.drop (k + 1))) else openF who b (l.drop (k + 1)) := by
  rw [List.drop_eq_getElem_cons h]; rfl
/-- those below number k that are open -/
def openK (l : List Nt) : Nat → List Int
  | 0 => []
  | k + 1 => if openF ((k : Int) + 1) false l then openK l k ++ [(k : Int) + 1] else openK l k
theorem openK_len (l : List Nt) : ∀ k, (openK l k).length ≤ k
  | 0 => Nat.le_refl _
  | k + 1 => by
    have := openK_len l k
    show (if openF ((k : Int) + 1) false l then openK l k ++ [(k : Int) + 1] else openK l k).length ≤ k + 1
    cases openF ((k : Int) + 1) false l
    · simp; omega
    · simp; omega
def openL (l : List Nt) : List Int := openK l 9
def goodU (X : Uw) : Bool := X.lg.all noteB && (cellsB X.cl && (cellsB X.dk && (decide (X.lg.length ≤ 60) && (inB 0 X.lg.length X.sr && decide (X.op = openL X.lg)))))
set_option maxHeartbeats 4000000 in
theorem snote_any (n : Nt) (w : World) : Calls Try.prog 21 #[.agg #[.int .i64 n.kd, .int .i64 n.wh, .int .i64 n.cl, .int .i64 n.ws, .int .i64 n.is]] w fun e w' => e = .returned (.bool (noteB n)) ∧ Below w.heap.size w w' := by
  obtain ⟨kd, wh, cl, ws, is⟩ := n
  show Calls Try.prog 21 #[.agg #[.int .i64 kd, .int .i64 wh, .int .i64 cl, .int .i64 ws, .int .i64 is]] w _
  have HB := hid (boxB w (.cells #[.int .i64 kd, .int .i64 wh, .int .i64 cl, .int .i64 ws, .int .i64 is] 47))
  have HK := hid (heap_last w (.cells #[.int .i64 kd, .int .i64 wh, .int .i64 cl, .int .i64 ws, .int .i64 is] 47))
  have E0 : Hid (noteB ⟨kd, wh, cl, ws, is⟩ = (inB 1 9 wh && (if kd = 2 then inB 0 5 cl && (inB 0 1000 ws && inB 0 1000 is) else (decide (kd = 1) || (decide (kd = 3) || decide (kd = 4))) && (decide (cl = 0) && (decide (ws = 0) && decide (is = 0)))))) := rfl
  have HW := hid (fun v => l1In_b wh 1 9 v)
  have HC := hid (fun v => l1In_b cl 0 5 v)
  have HS := hid (fun v => l1In_b ws 0 1000 v)
  have HI := hid (fun v => l1In_b is 0 1000 v)
  generalize inB 1 9 wh = bw at *
  generalize inB 0 5 cl = bc at *
  generalize inB 0 1000 ws = bs at *
  generalize inB 0 1000 is = bi at *
  go_enter Try.func21, Try.ntmps21
  go_upto_region 1 with fail
  generalize w.alloc (.cells #[.int .i64 kd, .int .i64 wh, .int .i64 cl, .int .i64 ws, .int .i64 is] 47) = W at *
  have x0 := box_cell HK.out 0
  have x1 := box_cell HK.out 1
  have x2 := box_cell HK.out 2
  have x3 := box_cell HK.out 3
  have x4 := box_cell HK.out 4
  go_wp2_with fail
  refine (HW.out W).mono ?_
  rintro e w2 ⟨rfl, hw2⟩
  rw [hw2]
  clear hw2 HW
  cases bw
  · go_wp2_with fail
    go_ret
    exact ⟨by rw [E0.out]; rfl, HB.out⟩
  by_cases k2 : kd = 2
  · have E2 : Hid (noteB ⟨kd, wh, cl, ws, is⟩ = (bc && (bs && bi))) := by show noteB _ = _; rw [E0.out, if_pos k2]; rfl
    have d1 : (kd == 2) = true := beq_iff_eq.2 k2
    have d2 : decide (kd = 2) = true := decide_eq_true k2
    clear k2 E0
    go_wp2_with fail
    refine (HC.out W).mono ?_
    rintro e w2 ⟨rfl, hw2⟩
    rw [hw2]
    clear hw2 HC
    cases bc
    · go_wp2_with fail
      go_ret
      exact ⟨by rw [E2.out]; rfl, HB.out⟩
    go_wp2_with fail
    refine (HS.out W).mono ?_
    rintro e w2 ⟨rfl, hw2⟩
    rw [hw2]
    clear hw2 HS
    cases bs
    · go_wp2_with fail
      go_ret
      exact ⟨by rw [E2.out]; rfl, HB.out⟩
    go_wp2_with fail
    refine (HI.out W).mono ?_
    rintro e w2 ⟨rfl, hw2⟩
    rw [hw2]
    clear hw2 HI
    cases bi
    · go_wp2_with fail
      go_ret
      exact ⟨by rw [E2.out]; rfl, HB.out⟩
    go_wp2_with fail
    go_ret
    exact ⟨by rw [E2.out]; rfl, HB.out⟩
  have E2 : Hid (noteB ⟨kd, wh, cl, ws, is⟩ = ((decide (kd = 1) || (decide (kd = 3) || decide (kd = 4))) && (decide (cl = 0) && (decide (ws = 0) && decide (is = 0))))) := by show noteB _ = _; rw [E0.out, if_neg k2]; rfl
  have d1 : (kd == 2) = false := beq_eq_false_iff_ne.2 k2
  have d2 : decide (kd = 2) = false := decide_eq_false k2
  clear E0 HC HS HI
  have HT : Hid (∀ (kb : Bool), (decide (kd = 1) || (decide (kd = 3) || decide (kd = 4))) = kb → noteB ⟨kd, wh, cl, ws, is⟩ = (kb && (decide (cl = 0) && (decide (ws = 0) && decide (is = 0))))) := fun kb h => by rw [E2.out, h]
  clear E2
  by_cases q1 : kd = 1
  · have HB9 := hid (HT.out true (by rw [decide_eq_true (p := kd = 1) q1]; simp))
    have g1 : (kd == 1) = true := beq_iff_eq.2 q1
    have g2 : decide (kd = 1) = true := decide_eq_true q1
    clear q1 HT k2
    by_cases c0 : cl = 0
    case neg =>
      have e1 : (cl == 0) = false := beq_eq_false_iff_ne.2 c0
      have e2 : decide (cl = 0) = false := decide_eq_false c0
      have HE : Hid (noteB ⟨kd, wh, cl, ws, is⟩ = false) := by show noteB _ = false; rw [HB9.out, e2]; simp
      clear c0
      go_wp2_with fail
      go_ret
      exact ⟨by rw [HE.out]; rfl, HB.out⟩
    have c1 : (cl == 0) = true := beq_iff_eq.2 c0
    have c2 : decide (cl = 0) = true := decide_eq_true c0
    clear c0
    by_cases s0 : ws = 0
    case neg =>
      have e1 : (ws == 0) = false := beq_eq_false_iff_ne.2 s0
      have e2 : decide (ws = 0) = false := decide_eq_false s0
      have HE : Hid (noteB ⟨kd, wh, cl, ws, is⟩ = false) := by show noteB _ = false; rw [HB9.out, e2]; simp
      clear s0
      go_wp2_with fail
      go_ret
      exact ⟨by rw [HE.out]; rfl, HB.out⟩
    have s1 : (ws == 0) = true := beq_iff_eq.2 s0
    have s2 : decide (ws = 0) = true := decide_eq_true s0
    clear s0
    by_cases i0 : is = 0
    case neg =>
      have e1 : (is == 0) = false := beq_eq_false_iff_ne.2 i0
      have e2 : decide (is = 0) = false := decide_eq_false i0
      have HE : Hid (noteB ⟨kd, wh, cl, ws, is⟩ = false) := by show noteB _ = false; rw [HB9.out, e2]; simp
      clear i0
      go_wp2_with fail
      go_ret
      exact ⟨by rw [HE.out]; rfl, HB.out⟩
    have i1 : (is == 0) = true := beq_iff_eq.2 i0
    have i2 : decide (is = 0) = true := decide_eq_true i0
    clear i0
    have HE : Hid (noteB ⟨kd, wh, cl, ws, is⟩ = true) := by show noteB _ = true; rw [HB9.out, c2, s2, i2]; rfl
    go_wp2_with fail
    go_ret
    exact ⟨by rw [HE.out]; rfl, HB.out⟩
  have g1 : (kd == 1) = false := beq_eq_false_iff_ne.2 q1
  have h1 : decide (kd = 1) = false := decide_eq_false q1
  by_cases q3 : kd = 3
  · have HB9 := hid (HT.out true (by rw [decide_eq_true (p := kd = 3) q3]; simp))
    have g1 : (kd == 3) = true := beq_iff_eq.2 q3
    have g2 : decide (kd = 3) = true := decide_eq_true q3
    clear q3 HT k2
    by_cases c0 : cl = 0
    case neg =>
      have e1 : (cl == 0) = false := beq_eq_false_iff_ne.2 c0
      have e2 : decide (cl = 0) = false := decide_eq_false c0
      have HE : Hid (noteB ⟨kd, wh, cl, ws, is⟩ = false) := by show noteB _ = false; rw [HB9.out, e2]; simp
      clear c0
      go_wp2_with fail
      go_ret
      exact ⟨by rw [HE.out]; rfl, HB.out⟩
    have c1 : (cl == 0) = true := beq_iff_eq.2 c0
    have c2 : decide (cl = 0) = true := decide_eq_true c0
    clear c0
    by_cases s0 : ws = 0
    case neg =>
      have e1 : (ws == 0) = false := beq_eq_false_iff_ne.2 s0
      have e2 : decide (ws = 0) = false := decide_eq_false s0
      have HE : Hid (noteB ⟨kd, wh, cl, ws, is⟩ = false) := by show noteB _ = false; rw [HB9.out, e2]; simp
      clear s0
      go_wp2_with fail
      go_ret
      exact ⟨by rw [HE.out]; rfl, HB.out⟩
    have s1 : (ws == 0) = true := beq_iff_eq.2 s0
    have s2 : decide (ws = 0) = true := decide_eq_true s0
    clear s0
    by_cases i0 : is = 0
    case neg =>
      have e1 : (is == 0) = false := beq_eq_false_iff_ne.2 i0
      have e2 : decide (is = 0) = false := decide_eq_false i0
      have HE : Hid (noteB ⟨kd, wh, cl, ws, is⟩ = false) := by show noteB _ = false; rw [HB9.out, e2]; simp
      clear i0
      go_wp2_with fail
      go_ret
      exact ⟨by rw [HE.out]; rfl, HB.out⟩
    have i1 : (is == 0) = true := beq_iff_eq.2 i0
    have i2 : decide (is = 0) = true := decide_eq_true i0
    clear i0
    have HE : Hid (noteB ⟨kd, wh, cl, ws, is⟩ = true) := by show noteB _ = true; rw [HB9.out, c2, s2, i2]; rfl
    go_wp2_with fail
    go_ret
    exact ⟨by rw [HE.out]; rfl, HB.out⟩
  have g3 : (kd == 3) = false := beq_eq_false_iff_ne.2 q3
  have h3 : decide (kd = 3) = false := decide_eq_false q3
  by_cases q4 : kd = 4
  · have HB9 := hid (HT.out true (by rw [decide_eq_true (p := kd = 4) q4]; simp))
    have g1 : (kd == 4) = true := beq_iff_eq.2 q4
    have g2 : decide (kd = 4) = true := decide_eq_true q4
    clear q4 HT k2
    by_cases c0 : cl = 0
    case neg =>
      have e1 : (cl == 0) = false := beq_eq_false_iff_ne.2 c0
      have e2 : decide (cl = 0) = false := decide_eq_false c0
      have HE : Hid (noteB ⟨kd, wh, cl, ws, is⟩ = false) := by show noteB _ = false; rw [HB9.out, e2]; simp
      clear c0
      go_wp2_with fail
      go_ret
      exact ⟨by rw [HE.out]; rfl, HB.out⟩
    have c1 : (cl == 0) = true := beq_iff_eq.2 c0
    have c2 : decide (cl = 0) = true := decide_eq_true c0
    clear c0
    by_cases s0 : ws = 0
    case neg =>
      have e1 : (ws == 0) = false := beq_eq_false_iff_ne.2 s0
      have e2 : decide (ws = 0) = false := decide_eq_false s0
      have HE : Hid (noteB ⟨kd, wh, cl, ws, is⟩ = false) := by show noteB _ = false; rw [HB9.out, e2]; simp
      clear s0
      go_wp2_with fail
      go_ret
      exact ⟨by rw [HE.out]; rfl, HB.out⟩
    have s1 : (ws == 0) = true := beq_iff_eq.2 s0
    have s2 : decide (ws = 0) = true := decide_eq_true s0
    clear s0
    by_cases i0 : is = 0
    case neg =>
      have e1 : (is == 0) = false := beq_eq_false_iff_ne.2 i0
      have e2 : decide (is = 0) = false := decide_eq_false i0
      have HE : Hid (noteB ⟨kd, wh, cl, ws, is⟩ = false) := by show noteB _ = false; rw [HB9.out, e2]; simp
      clear i0
      go_wp2_with fail
      go_ret
      exact ⟨by rw [HE.out]; rfl, HB.out⟩
    have i1 : (is == 0) = true := beq_iff_eq.2 i0
    have i2 : decide (is = 0) = true := decide_eq_true i0
    clear i0
    have HE : Hid (noteB ⟨kd, wh, cl, ws, is⟩ = true) := by show noteB _ = true; rw [HB9.out, c2, s2, i2]; rfl
    go_wp2_with fail
    go_ret
    exact ⟨by rw [HE.out]; rfl, HB.out⟩
  have g4 : (kd == 4) = false := beq_eq_false_iff_ne.2 q4
  have h4 : decide (kd = 4) = false := decide_eq_false q4
  have HB9 := hid (HT.out false (by rw [h1, h3, h4]; rfl))
  have HE : Hid (noteB ⟨kd, wh, cl, ws, is⟩ = false) := by show noteB _ = false; rw [HB9.out]; rfl
  clear q1 q3 q4 k2 HT
  go_wp2_with fail
  go_ret
  exact ⟨by rw [HE.out]; rfl, HB.out⟩
set_option maxHeartbeats 1000000 in
theorem scells_any (a : Option Addr) (ka : Nat) (l : List Int) (w : World) (hn : l.length ≤ 1048576) (hZ : Is w.heap.size a l w) : Calls Try.prog 22 #[.slice a l.length ka] w fun e w' => e = .returned (.bool (cellsB l)) ∧ w' = w := by
  have HC := hid (l1All_any a ka l 0 1000 w hn hZ)
  have E0 : Hid (cellsB l = (decide (l.length = 6) && allIn l 0 1000)) := rfl
  generalize allIn l 0 1000 = b at *
  by_cases h : l.length = 6
  · have d1 : ((l.length : Int) == 6) = true := beq_iff_eq.2 (by omega)
    have d2 : decide ((l.length : Int) = 6) = true := decide_eq_true (by omega)
    have E1 : Hid (cellsB l = b) := by show cellsB l = b; rw [E0.out, decide_eq_true h]; rfl
    clear E0 h
    go_enter Try.func22, Try.ntmps22
    go_wp2_with fail
    refine HC.out.mono ?_
    rintro e w2 ⟨rfl, hw2⟩
    rw [hw2]
    clear hw2
    go_wp2_with fail
    go_ret
    exact ⟨by rw [E1.out]; rfl, rfl⟩
  · have d1 : ((l.length : Int) == 6) = false := beq_eq_false_iff_ne.2 (by omega)
    have d2 : decide ((l.length : Int) = 6) = false := decide_eq_false (by omega)
    have E1 : Hid (cellsB l = false) := by show cellsB l = false; rw [E0.out, decide_eq_false h]; rfl
    clear E0 h
    go_enter Try.func22, Try.ntmps22
    go_wp2_with fail
    go_ret
    exact ⟨by rw [E1.out]; rfl, rfl⟩
set_option maxHeartbeats 2000000 in
theorem ssame_any (a c : Option Addr) (ka kc : Nat) (l m : List Int) (w : World) (hn : l.length ≤ 1048576) (hm : m.length ≤ 1048576) (hZ : Is w.heap.size a l w) (hY : Is w.heap.size c m w) :
    Calls Try.prog 23 #[.slice a l.length ka, .slice c m.length kc] w fun e w' => e = .returned (.bool (decide (l = m))) ∧ Below w.heap.size w w' := by
  have HZ := hid hZ
  have HY := hid hY
  clear hZ hY
  by_cases hl : l.length = m.length
  case neg =>
    have E : Hid (decide (l = m) = false) := decide_eq_false (fun e => hl (by rw [e]))
    have d1 : ((l.length : Int) == (m.length : Int)) = false := beq_eq_false_iff_ne.2 (by omega)
    have d2 : ((l.length : Int) != (m.length : Int)) = true := bne_iff_ne.2 (by omega)
    have d3 : decide ((l.length : Int) = (m.length : Int)) = false := decide_eq_false (by omega)
    clear hl
    go_enter Try.func23, Try.ntmps23
    go_wp2_with fail
    go_ret
    exact ⟨by rw [E.out]; rfl, Below.refl _ _⟩
  have HL := hid hl
  have d1 : ((l.length : Int) == (m.length : Int)) = true := beq_iff_eq.2 (by omega)
  have d2 : ((l.length : Int) != (m.length : Int)) = false := by rw [bne, d1]; rfl
  have d3 : decide ((l.length : Int) = (m.length : Int)) = true := decide_eq_true (by omega)
  clear hl
  go_enter Try.func23, Try.ntmps23
  go_wp2_with fail
  clear d1 d2 d3
  go_loopw [13] (fun i wr => ∃ k : Nat, k ≤ l.length ∧ i = .int .i64 k ∧ (∀ j (h1 : j < l.length) (h2 : j < m.length), j < k → l[j] = m[j]) ∧ Below w.heap.size w wr) (fun i _ => l.length - (intOf i).toNat)
  case atStart => exact ⟨0, Nat.zero_le _, rfl, (fun _ _ _ h => absurd h (Nat.not_lt_zero _)), Below.refl _ _⟩
  case round =>
    obtain ⟨k, hk, rfl, hall, hbel⟩ := hrel
    have HALL := hid hall
    have HBEL := hid hbel
    clear hall
    by_cases hlt : k < l.length
    · have hlm : k < m.length := by have := HL.out; omega
      obtain ⟨b, off, rfl, hb, hc⟩ := HZ.out.cell (by omega)
      obtain ⟨b2, off2, rfl, hb2, hc2⟩ := HY.out.cell (by omega)
      have x0 := (hbel.cell (p := ⟨b, off + k, none⟩) hb).trans (hc k hlt)
      have y0 := (hbel.cell (p := ⟨b2, off2 + k, none⟩) hb2).trans (hc2 k hlm)
      have i1 : (k : Int) < (l.length : Int) := by omega
      have i2 : (k : Int) < (m.length : Int) := by omega
      have HBAD : Hid (l[k] ≠ m[k] → decide (l = m) = false) := fun h => decide_eq_false (fun e => h (by subst e; rfl))
      have HGO : Hid (l[k] = m[k] → ∀ j (h1 : j < l.length) (h2 : j < m.length), j < k + 1 → l[j] = m[j]) := fun h j h1 h2 hj => by
        by_cases e : j = k
        · subst e; exact h
        · exact HALL.out j h1 h2 (by omega)
      clear hc hc2 hbel
      generalize l[k] = x at *
      generalize m[k] = y at *
      by_cases e : x = y
      · have d1 : (x == y) = true := beq_iff_eq.2 e
        have d2 : (x != y) = false := by rw [bne, d1]; rfl
        have HG := hid (HGO.out e)
        clear e HBAD HGO
        go_wp2_with fail
        go_quiet (fail)
        go_wp2_with fail
        go_roundw
        case rel => exact ⟨k + 1, by omega, by go_num, HG.out, HBEL.out.trans ((belowN _ _).mono HBEL.out.size)⟩
        case measure => simp [intOf]; omega
      · have d1 : (x == y) = false := beq_eq_false_iff_ne.2 e
        have d2 : (x != y) = true := bne_iff_ne.2 e
        have HE := hid (HBAD.out e)
        clear e HBAD HGO
        go_wp2_with fail
        go_quiet (fail)
        go_wp2_with fail
        go_ret
        exact ⟨by rw [HE.out]; rfl, HBEL.out.trans ((belowN _ _).mono HBEL.out.size)⟩
    · obtain rfl : k = l.length := by omega
      have HE : Hid (decide (l = m) = true) := decide_eq_true (List.ext_getElem HL.out (fun j h1 h2 => HALL.out j h1 h2 h1))
      clear hbel
      go_wp2_with fail
      go_ret
      exact ⟨by rw [HE.out]; rfl, HBEL.out⟩
end Go.Proofs.Ytgompioaknfjgab
