/- Windows in memory: measured, made over, held against each other, marked. -/
import Derived.Test.YtaiilhhkfjlkoaaNFrM
namespace Go.Proofs.Ytaiilhhkfjlkoaa
set_option maxRecDepth 100000
open Go.ChangeShapes Go.WideShapes Go.ChangeAt Go.RowKit
/-- a window -/
structure Wd where
  pc : List ByteArray
  sz : Int
  hd : List Bool
  ln : List Fr
  hl : List ByteArray
  hs : List Bool
  td : Int
/-- where a window's lists lie, and their capacities -/
structure Ad where
  p : Option Addr
  kp : Nat
  h : Option Addr
  kh : Nat
  l : Option Addr
  kl : Nat
  e : Option Addr
  ke : Nat
  s : Option Addr
  ks : Nat
def zeroW : Wd := ⟨[], 0, [], [], [], [], 0⟩
def noA : Ad := ⟨none, 0, none, 0, none, 0, none, 0, none, 0⟩
/-- a window in memory below block B -/
structure WR (B : Nat) (A : Ad) (X : Wd) (w : World) : Prop where
  p : Ss B A.p X.pc w
  h : Bs B A.h X.hd w
  l : Fs B A.l X.ln w
  e : Ss B A.e X.hl w
  s : Bs B A.s X.hs w
theorem WR.below {B : Nat} {A : Ad} {X : Wd} {w w' : World} (h : WR B A X w) (g : Below B w w') : WR B A X w' := ⟨h.p.below g, h.h.below g, h.l.below g, h.e.below g, h.s.below g⟩
theorem WR.mono {B B' : Nat} {A : Ad} {X : Wd} {w : World} (h : WR B A X w) (g : B ≤ B') : WR B' A X w := ⟨h.p.mono g, h.h.mono g, h.l.mono g, h.e.mono g, h.s.mono g⟩
theorem WR.up {B : Nat} {A : Ad} {X : Wd} {w w' : World} (h : WR B A X w) (g : Below B w w') (hB : B ≤ w'.heap.size) : WR w'.heap.size A X w' := (h.below g).mono hB
/-- lists that lie in blocks apart, where neither is empty -/
def Apt (n : Nat) (a : Option Addr) (m : Nat) (b : Option Addr) : Prop := 0 < n → 0 < m → ∀ p q, a = some p → b = some q → p.block ≠ q.block
theorem Apt.symm {n m : Nat} {a b : Option Addr} (h : Apt n a m b) : Apt m b n a := fun h1 h2 p q hp hq e => h h2 h1 q p hq hp e.symm
/-- a list lies in blocks lo .. hi - 1, or is empty -/
def Lies (lo hi n : Nat) (a : Option Addr) : Prop := 0 < n → ∀ p, a = some p → lo ≤ p.block ∧ p.block < hi
theorem Lies.apt {lo mid m2 hi n m : Nat} {a b : Option Addr} (h : Lies lo mid n a) (g : Lies m2 hi m b) (hm : mid ≤ m2) : Apt n a m b := fun h1 h2 p q hp hq => by
  have := h h1 p hp; have := g h2 q hq; omega
theorem Lies.none (lo hi : Nat) (a : Option Addr) : Lies lo hi 0 a := fun h => absurd h (Nat.lt_irrefl _)
/-- all blocks but that of a list stand as they stood -/
structure Kp (n : Nat) (a : Option Addr) (w w' : World) : Prop where
  os : w'.os = w.os
  tape : w'.tape = w.tape
  output : w'.output = w.output
  size : w.heap.size ≤ w'.heap.size
  block : ∀ k, k < w.heap.size → (0 < n → ∀ p, a = some p → k ≠ p.block) → w'.heap[k]? = w.heap[k]?
theorem Kp.refl (n : Nat) (a : Option Addr) (w : World) : Kp n a w w := ⟨rfl, rfl, rfl, Nat.le_refl _, fun _ _ _ => rfl⟩
theorem Kp.ofBut {n R o : Nat} {w w' : World} (h0 : 0 < n) (h : But R w w') : Kp n (some ⟨R, o, none⟩) w w' := ⟨h.os, h.tape, h.output, h.size, fun k hk hn => h.block k hk (hn h0 _ rfl)⟩
theorem Kp.out {lo hi n : Nat} {a : Option Addr} {w w' : World} (h : Kp n a w w') (g : Lies lo hi n a) : Out lo hi w w' := ⟨h.os, h.tape, h.output, h.size, fun k hk hb => h.block k hk (fun h0 p hp => by have := g h0 p hp; omega)⟩
theorem Out.wideN {lo hi lo' hi' : Nat} {w w' : World} (h : Out lo hi w w') (h1 : lo' ≤ lo) (h2 : hi ≤ hi') : Out lo' hi' w w' := ⟨h.os, h.tape, h.output, h.size, fun k hk hb => h.block k hk (by omega)⟩
theorem OwnS.lies {lo hi : Nat} {a : Option Addr} {l : List ByteArray} {w : World} (h : OwnS lo hi a l w) : Lies lo hi l.length a := fun h0 p hp => by
  rcases h with rfl | ⟨R, h1, h3, rfl, hr⟩
  · exact absurd h0 (by simp)
  · cases hp; exact ⟨h1, h3⟩
theorem OwnS.kp {lo hi n : Nat} {a b : Option Addr} {l : List ByteArray} {w w' : World} (h : OwnS lo hi b l w) (g : Kp n a w w') (ha : Apt n a l.length b) : OwnS lo hi b l w' := by
  rcases h with h | ⟨R, h1, h3, rfl, hr⟩
  · exact Or.inl h
  · by_cases h0 : 0 < l.length
    · exact Or.inr ⟨R, h1, h3, rfl, hr.same g.size (g.block R hr.lt (fun hn p hp e => ha hn h0 p _ hp rfl e.symm))⟩
    · exact Or.inl (List.eq_nil_of_length_eq_zero (by omega))
theorem OwnS.wide {lo hi lo' hi' : Nat} {a : Option Addr} {l : List ByteArray} {w : World} (h : OwnS lo hi a l w) (h1 : lo' ≤ lo) (h2 : hi ≤ hi') : OwnS lo' hi' a l w := by
  rcases h with h | ⟨R, h3, h4, e, hr⟩
  · exact Or.inl h
  · exact Or.inr ⟨R, by omega, by omega, e, hr⟩
theorem OwnB.lies {lo hi : Nat} {a : Option Addr} {l : List Bool} {w : World} (h : OwnB lo hi a l w) : Lies lo hi l.length a := fun h0 p hp => by
  rcases h with rfl | ⟨R, h1, h3, rfl, hr⟩
  · exact absurd h0 (by simp)
  · cases hp; exact ⟨h1, h3⟩
theorem OwnB.kp {lo hi n : Nat} {a b : Option Addr} {l : List Bool} {w w' : World} (h : OwnB lo hi b l w) (g : Kp n a w w') (ha : Apt n a l.length b) : OwnB lo hi b l w' := by
  rcases h with h | ⟨R, h1, h3, rfl, hr⟩
  · exact Or.inl h
  · by_cases h0 : 0 < l.length
    · exact Or.inr ⟨R, h1, h3, rfl, hr.same g.size (g.block R hr.lt (fun hn p hp e => ha hn h0 p _ hp rfl e.symm))⟩
    · exact Or.inl (List.eq_nil_of_length_eq_zero (by omega))
theorem OwnB.wide {lo hi lo' hi' : Nat} {a : Option Addr} {l : List Bool} {w : World} (h : OwnB lo hi a l w) (h1 : lo' ≤ lo) (h2 : hi ≤ hi') : OwnB lo' hi' a l w := by
  rcases h with h | ⟨R, h3, h4, e, hr⟩
  · exact Or.inl h
  · exact Or.inr ⟨R, by omega, by omega, e, hr⟩
theorem OwnF.lies {lo hi : Nat} {a : Option Addr} {l : List Fr} {w : World} (h : OwnF lo hi a l w) : Lies lo hi l.length a := fun h0 p hp => by
  rcases h with rfl | ⟨R, h1, h3, rfl, hr⟩
  · exact absurd h0 (by simp)
  · cases hp; exact ⟨h1, h3⟩
theorem OwnF.kp {lo hi n : Nat} {a b : Option Addr} {l : List Fr} {w w' : World} (h : OwnF lo hi b l w) (g : Kp n a w w') (ha : Apt n a l.length b) : OwnF lo hi b l w' := by
  rcases h with h | ⟨R, h1, h3, rfl, hr⟩
  · exact Or.inl h
  · by_cases h0 : 0 < l.length
    · exact Or.inr ⟨R, h1, h3, rfl, hr.same g.size (g.block R hr.lt (fun hn p hp e => ha hn h0 p _ hp rfl e.symm))⟩
    · exact Or.inl (List.eq_nil_of_length_eq_zero (by omega))
theorem OwnF.wide {lo hi lo' hi' : Nat} {a : Option Addr} {l : List Fr} {w : World} (h : OwnF lo hi a l w) (h1 : lo' ≤ lo) (h2 : hi ≤ hi') : OwnF lo' hi' a l w := by
  rcases h with h | ⟨R, h3, h4, e, hr⟩
  · exact Or.inl h
  · exact Or.inr ⟨R, by omega, by omega, e, hr⟩
/-- a window's lists lie apart -/
structure Ap5 (A : Ad) (X : Wd) : Prop where
  ph : Apt X.pc.length A.p X.hd.length A.h
  pl : Apt X.pc.length A.p X.ln.length A.l
  pe : Apt X.pc.length A.p X.hl.length A.e
  ps : Apt X.pc.length A.p X.hs.length A.s
  hl : Apt X.hd.length A.h X.ln.length A.l
  he : Apt X.hd.length A.h X.hl.length A.e
  hs : Apt X.hd.length A.h X.hs.length A.s
  le : Apt X.ln.length A.l X.hl.length A.e
  ls : Apt X.ln.length A.l X.hs.length A.s
  es : Apt X.hl.length A.e X.hs.length A.s
/-- its lists have the room that they need -/
structure CapW (A : Ad) (X : Wd) : Prop where
  p : X.pc.length ≤ A.kp
  h : X.hd.length ≤ A.kh
  l : X.ln.length ≤ A.kl
  e : X.hl.length ≤ A.ke
  s : X.hs.length ≤ A.ks
/-- a window in memory of its own, in blocks lo .. hi - 1 -/
structure WO (lo hi : Nat) (A : Ad) (X : Wd) (w : World) : Prop where
  p : OwnS lo hi A.p X.pc w
  h : OwnB lo hi A.h X.hd w
  l : OwnF lo hi A.l X.ln w
  e : OwnS lo hi A.e X.hl w
  s : OwnB lo hi A.s X.hs w
  ap : Ap5 A X
  cap : CapW A X
theorem WO.below {lo hi : Nat} {A : Ad} {X : Wd} {w w' : World} (h : WO lo hi A X w) (g : Below w.heap.size w w') : WO lo hi A X w' := ⟨h.p.below g, h.h.below g, h.l.below g, h.e.below g, h.s.below g, h.ap, h.cap⟩
theorem WO.wide {lo hi lo' hi' : Nat} {A : Ad} {X : Wd} {w : World} (h : WO lo hi A X w) (h1 : lo' ≤ lo) (h2 : hi ≤ hi') : WO lo' hi' A X w := ⟨h.p.wide h1 h2, h.h.wide h1 h2, h.l.wide h1 h2, h.e.wide h1 h2, h.s.wide h1 h2, h.ap, h.cap⟩
theorem WO.out {lo hi l2 h2 : Nat} {A : Ad} {X : Wd} {w w' : World} (h : WO lo hi A X w) (g : Out l2 h2 w w') (hd : hi ≤ l2 ∨ h2 ≤ lo) : WO lo hi A X w' := ⟨h.p.out g hd, h.h.out g hd, h.l.out g hd, h.e.out g hd, h.s.out g hd, h.ap, h.cap⟩
theorem WO.read {lo hi : Nat} {A : Ad} {X : Wd} {w : World} (h : WO lo hi A X w) : WR w.heap.size A X w := ⟨h.p.ss, h.h.bs, h.l.fs, h.e.ss, h.s.bs⟩
theorem Ap5.zero (A : Ad) : Ap5 A zeroW := ⟨fun h => absurd h (Nat.lt_irrefl _), fun h => absurd h (Nat.lt_irrefl _), fun h => absurd h (Nat.lt_irrefl _), fun h => absurd h (Nat.lt_irrefl _), fun h => absurd h (Nat.lt_irrefl _), fun h => absurd h (Nat.lt_irrefl _), fun h => absurd h (Nat.lt_irrefl _), fun h => absurd h (Nat.lt_irrefl _), fun h => absurd h (Nat.lt_irrefl _), fun h => absurd h (Nat.lt_irrefl _)⟩
theorem WO.zero (lo hi : Nat) (A : Ad) (w : World) : WO lo hi A zeroW w := ⟨Or.inl rfl, Or.inl rfl, Or.inl rfl, Or.inl rfl, Or.inl rfl, Ap5.zero A, ⟨Nat.zero_le _, Nat.zero_le _, Nat.zero_le _, Nat.zero_le _, Nat.zero_le _⟩⟩
/-- a window whose lists a law can count -/
structure CntW (X : Wd) : Prop where
  np : X.pc.length ≤ 9223372036854775807
  zp : ∀ s ∈ X.pc, s.size ≤ 9223372036854775807
  nh : X.hd.length ≤ 9223372036854775807
  nl : X.ln.length ≤ 9223372036854775807
  zl : ∀ r ∈ X.ln, r.tx.size ≤ 9223372036854775807
  ne : X.hl.length ≤ 9223372036854775807
  ze : ∀ s ∈ X.hl, s.size ≤ 9223372036854775807
  ns : X.hs.length ≤ 9223372036854775807
/-- a window whose lists a law takes -/
structure FitW (X : Wd) : Prop where
  p : X.pc.length ≤ 1048576
  h : X.hd.length ≤ 1048576
  l : X.ln.length ≤ 1048576
  e : X.hl.length ≤ 1048576
  s : X.hs.length ≤ 1048576
theorem FitW.zero : FitW zeroW := ⟨by decide, by decide, by decide, by decide, by decide⟩
theorem box7 {w : World} {Q : Nat} {a0 a1 a2 a3 a4 a5 a6 : Value} {t : TypeId} (h : w.heap[Q]? = some (.cells #[a0, a1, a2, a3, a4, a5, a6] t)) : (w.cell? ⟨Q, 0, none⟩ = some (a0) ∧ w.cell? ⟨Q, 1, none⟩ = some (a1) ∧ w.cell? ⟨Q, 2, none⟩ = some (a2) ∧ w.cell? ⟨Q, 3, none⟩ = some (a3) ∧ w.cell? ⟨Q, 4, none⟩ = some (a4) ∧ w.cell? ⟨Q, 5, none⟩ = some (a5) ∧ w.cell? ⟨Q, 6, none⟩ = some (a6)) ∧ w.frozen? ⟨Q, 0, none⟩ = false ∧ w.frozen? ⟨Q, 1, none⟩ = false ∧ w.frozen? ⟨Q, 2, none⟩ = false ∧ w.frozen? ⟨Q, 3, none⟩ = false ∧ w.frozen? ⟨Q, 4, none⟩ = false ∧ w.frozen? ⟨Q, 5, none⟩ = false ∧ w.frozen? ⟨Q, 6, none⟩ = false := ⟨⟨box_cell h 0, box_cell h 1, box_cell h 2, box_cell h 3, box_cell h 4, box_cell h 5, box_cell h 6⟩, box_free h 0, box_free h 1, box_free h 2, box_free h 3, box_free h 4, box_free h 5, box_free h 6⟩
theorem fill7 {w : World} {Q : Nat} {a0 a1 a2 a3 a4 a5 a6 : Value} {t : TypeId} (h : w.heap[Q]? = some (.cells #[a0, a1, a2, a3, a4, a5, a6] t)) (b0 b1 b2 b3 b4 b5 b6 : Value) : (((((((w.setCell ⟨Q, 0, none⟩ (b0)).setCell ⟨Q, 1, none⟩ (b1)).setCell ⟨Q, 2, none⟩ (b2)).setCell ⟨Q, 3, none⟩ (b3)).setCell ⟨Q, 4, none⟩ (b4)).setCell ⟨Q, 5, none⟩ (b5)).setCell ⟨Q, 6, none⟩ (b6)).heap[Q]? = some (.cells #[b0, b1, b2, b3, b4, b5, b6] t) := by
  have := (box_set (box_set (box_set (box_set (box_set (box_set (box_set h 0 b0) 1 b1) 2 b2) 3 b3) 4 b4) 5 b5) 6 b6)
  simpa using this
theorem fill7_keep (w : World) (Q k : Nat) (h : k ≠ Q) (b0 b1 b2 b3 b4 b5 b6 : Value) : (((((((w.setCell ⟨Q, 0, none⟩ (b0)).setCell ⟨Q, 1, none⟩ (b1)).setCell ⟨Q, 2, none⟩ (b2)).setCell ⟨Q, 3, none⟩ (b3)).setCell ⟨Q, 4, none⟩ (b4)).setCell ⟨Q, 5, none⟩ (b5)).setCell ⟨Q, 6, none⟩ (b6)).heap[k]? = w.heap[k]? := by
  rw [keepB _ _ _ _ _ h, keepB _ _ _ _ _ h, keepB _ _ _ _ _ h, keepB _ _ _ _ _ h, keepB _ _ _ _ _ h, keepB _ _ _ _ _ h, keepB _ _ _ _ _ h]
theorem fill7_below {B Q : Nat} {a w : World} (h : Below B a w) (hQ : B ≤ Q) (b0 b1 b2 b3 b4 b5 b6 : Value) : Below B a (((((((w.setCell ⟨Q, 0, none⟩ (b0)).setCell ⟨Q, 1, none⟩ (b1)).setCell ⟨Q, 2, none⟩ (b2)).setCell ⟨Q, 3, none⟩ (b3)).setCell ⟨Q, 4, none⟩ (b4)).setCell ⟨Q, 5, none⟩ (b5)).setCell ⟨Q, 6, none⟩ (b6)) := (setB (setB (setB (setB (setB (setB (setB h _ _ hQ _) _ _ hQ _) _ _ hQ _) _ _ hQ _) _ _ hQ _) _ _ hQ _) _ _ hQ _)
theorem fill7_out (w : World) (Q : Nat) (b0 b1 b2 b3 b4 b5 b6 : Value) : Out Q (Q + 1) w (((((((w.setCell ⟨Q, 0, none⟩ (b0)).setCell ⟨Q, 1, none⟩ (b1)).setCell ⟨Q, 2, none⟩ (b2)).setCell ⟨Q, 3, none⟩ (b3)).setCell ⟨Q, 4, none⟩ (b4)).setCell ⟨Q, 5, none⟩ (b5)).setCell ⟨Q, 6, none⟩ (b6)) := Out.ofBut ((((((((But.refl Q w).setCell _ _).setCell _ _).setCell _ _).setCell _ _).setCell _ _).setCell _ _).setCell _ _) (Nat.le_refl _) (Nat.lt_succ_self _)
theorem fill7_size (w : World) (Q : Nat) (b0 b1 b2 b3 b4 b5 b6 : Value) : (((((((w.setCell ⟨Q, 0, none⟩ (b0)).setCell ⟨Q, 1, none⟩ (b1)).setCell ⟨Q, 2, none⟩ (b2)).setCell ⟨Q, 3, none⟩ (b3)).setCell ⟨Q, 4, none⟩ (b4)).setCell ⟨Q, 5, none⟩ (b5)).setCell ⟨Q, 6, none⟩ (b6)).heap.size = w.heap.size := by simp [World.setCell]
theorem kbox {w : World} {X : Nat} {o : Obj} (h : w.heap[X]? = some o) : X < w.heap.size := by
  rcases Nat.lt_or_ge X w.heap.size with h' | h'
  · exact h'
  · rw [Array.getElem?_eq_none h'] at h; cases h
set_option maxHeartbeats 1000000 in
theorem szStringS_l (a : Option Addr) (cap : Nat) (l : List ByteArray) (left : Int) (w : World) (h0 : 0 ≤ left) (h1 : left ≤ 1048576) (hz : ∀ s ∈ l, s.size ≤ 9223372036854775807) (hn : l.length ≤ 9223372036854775807) (hZ : Ss w.heap.size a l w) :
    Calls Try.prog 9 #[.slice a l.length cap, .int .i64 left] w fun e w' => (∃ r : Int, e = .returned (.int .i64 r) ∧ r ≤ left ∧ -1 ≤ r ∧ (0 ≤ r → r + l.length ≤ left)) ∧ w' = w := by
  have HZ : Hid (Ss w.heap.size a l w) := hZ
  have HS : Hid (∀ s ∈ l, s.size ≤ 9223372036854775807) := hz
  clear hZ hz
  by_cases g : (l.length : Int) ≤ left
  · have hd : decide (left - (l.length : Int) < 0) = false := by simp; omega
    go_enter Try.func9, Try.ntmps9
    go_wp2
    go_loopw [1, 5] (fun t i wr => ∃ (k : Nat) (r : Int), k ≤ l.length ∧ i = .int .i64 k ∧ t = .int .i64 r ∧ 0 ≤ r ∧ r + l.length ≤ left ∧ wr = w) (fun _ i _ => l.length - (intOf i).toNat)
    case atStart => exact ⟨0, _, Nat.zero_le _, rfl, rfl, by omega, by omega, rfl⟩
    case round =>
      obtain ⟨k, r, hk, rfl, rfl, r0, r1, hwr⟩ := hrel
      obtain rfl := hwr.symm
      by_cases hlt : k < l.length
      · obtain ⟨b, off, rfl, hb, hcells⟩ := HZ.out.cell (by omega)
        have c0 := hcells k hlt
        have hsz := HS.out l[k] (List.getElem_mem hlt)
        clear hcells
        generalize l[k] = D at *
        by_cases hq : (D.size : Int) ≤ r
        · have hdq : decide (r - (D.size : Int) < 0) = false := by simp; omega
          go_wp2
          go_roundw
          case rel => exact ⟨k + 1, r - (D.size : Int), by omega, by go_num, by go_num, by omega, by omega, by trivial⟩
          case measure => simp [intOf]; omega
        · have hdq : decide (r - (D.size : Int) < 0) = true := by simp; omega
          go_wp2
          go_ret
          exact ⟨⟨-1, rfl, by omega, by omega, fun h => by omega⟩, rfl⟩
      · go_wp2
        go_ret
        exact ⟨⟨r, rfl, by omega, by omega, fun _ => by omega⟩, rfl⟩
  · have hd : decide (left - (l.length : Int) < 0) = true := by simp; omega
    go_enter Try.func9, Try.ntmps9
    go_wp2
    go_ret
    exact ⟨⟨-1, rfl, by omega, by omega, fun h => by omega⟩, rfl⟩
set_option maxHeartbeats 400000 in
theorem szBoolS_any (a : Option Addr) (cap n : Nat) (left : Int) (w : World) (h0 : 0 ≤ left) (h1 : left ≤ 1048576) (hn : n ≤ 9223372036854775807) :
    Calls Try.prog 48 #[.slice a n cap, .int .i64 left] w fun e w' => (∃ r : Int, e = .returned (.int .i64 r) ∧ r ≤ 1048576 ∧ -1 ≤ r ∧ (0 ≤ r → n ≤ 1048576)) ∧ w' = w := by
  by_cases g : (n : Int) ≤ left
  · have hd : decide (left - (n : Int) < 0) = false := by simp; omega
    go_enter Try.func48, Try.ntmps48
    go_wp2
    go_ret
    exact ⟨⟨_, rfl, by omega, by omega, fun _ => by omega⟩, rfl⟩
  · have hd : decide (left - (n : Int) < 0) = true := by simp; omega
    go_enter Try.func48, Try.ntmps48
    go_wp2
    go_ret
    exact ⟨⟨-1, rfl, by omega, by omega, fun h => by omega⟩, rfl⟩
set_option maxHeartbeats 2000000 in
theorem szWindow_any (A : Ad) (X : Wd) (w : World) (hc : CntW X) (h : WR w.heap.size A X w) :
    Calls Try.prog 18 #[.agg #[.slice A.p X.pc.length A.kp, .int .i64 X.sz, .slice A.h X.hd.length A.kh, .slice A.l X.ln.length A.kl, .slice A.e X.hl.length A.ke, .slice A.s X.hs.length A.ks, .int .i64 X.td], .int .i64 1048576] w fun e w' => (∃ r : Int, e = .returned (.int .i64 r) ∧ (0 ≤ r → FitW X)) ∧ Below w.heap.size w w' := by
  have HB0 := hid (boxB w (.cells #[.slice A.p X.pc.length A.kp, .int .i64 X.sz, .slice A.h X.hd.length A.kh, .slice A.l X.ln.length A.kl, .slice A.e X.hl.length A.ke, .slice A.s X.hs.length A.ks, .int .i64 X.td] 37))
  have HK0 : Hid ((w.alloc (.cells #[.slice A.p X.pc.length A.kp, .int .i64 X.sz, .slice A.h X.hd.length A.kh, .slice A.l X.ln.length A.kl, .slice A.e X.hl.length A.ke, .slice A.s X.hs.length A.ks, .int .i64 X.td] 37)).heap[w.heap.size]? = some (.cells #[.slice A.p X.pc.length A.kp, .int .i64 X.sz, .slice A.h X.hd.length A.kh, .slice A.l X.ln.length A.kl, .slice A.e X.hl.length A.ke, .slice A.s X.hs.length A.ks, .int .i64 X.td] 37)) := heap_last _ _
  have HCN := hid hc
  have HZ : Hid (∀ v, Below w.heap.size w v → WR v.heap.size A X v) := fun v g => (h.below g).mono g.size
  clear h hc
  go_enter Try.func18, Try.ntmps18
  go_wp2_with fail
  generalize w.alloc (.cells #[.slice A.p X.pc.length A.kp, .int .i64 X.sz, .slice A.h X.hd.length A.kh, .slice A.l X.ln.length A.kl, .slice A.e X.hl.length A.ke, .slice A.s X.hs.length A.ks, .int .i64 X.td] 37) = w0 at *
  refine (szStringS_l A.p A.kp X.pc 1048576 w0 (by decide) (by decide) HCN.out.zp HCN.out.np (HZ.out _ HB0.out).p).mono ?_
  rintro e w1 ⟨⟨r1, rfl, q1, q2, hq⟩, b⟩
  have hle1 : r1 ≤ 1048576 := by omega
  have HQ1 : Hid (0 ≤ r1 → X.pc.length ≤ 1048576) := fun h => by have := hq h; omega
  have HB1 : Hid (Below w.heap.size w w1) := HB0.out.trans ((show Below w0.heap.size w0 w1 from by rw [b]; exact Below.refl _ _).mono HB0.out.size)
  have HK1 : Hid (w1.heap[w.heap.size]? = some (.cells #[.slice A.p X.pc.length A.kp, .int .i64 X.sz, .slice A.h X.hd.length A.kh, .slice A.l X.ln.length A.kl, .slice A.e X.hl.length A.ke, .slice A.s X.hs.length A.ks, .int .i64 X.td] 37)) := ((show Below w0.heap.size w0 w1 from by rw [b]; exact Below.refl _ _).block _ (kbox HK0.out)).trans HK0.out
  clear b hq HB0 HK0 q2 q1
  by_cases p1 : 0 ≤ r1
  case neg =>
    have hd : decide (r1 < 0) = true := decide_eq_true (by omega)
    go_wp2_with fail
    go_ret
    exact ⟨⟨-1, rfl, fun h => by omega⟩, HB1.out⟩
  have hd1 : decide (r1 < 0) = false := decide_eq_false (by omega)
  have x1 : w1.cell? ⟨w.heap.size, 2, none⟩ = some (.slice A.h X.hd.length A.kh) := box_cell HK1.out 2
  go_wp2_with fail
  refine (szBoolS_any A.h A.kh X.hd.length r1 w1 p1 hle1 HCN.out.nh).mono ?_
  rintro e w2 ⟨⟨r2, rfl, q1, q2, hq⟩, b⟩
  have hle2 : r2 ≤ 1048576 := by omega
  have HQ2 : Hid (0 ≤ r2 → X.hd.length ≤ 1048576) := fun h => by have := hq h; omega
  have HB2 : Hid (Below w.heap.size w w2) := HB1.out.trans ((show Below w1.heap.size w1 w2 from by rw [b]; exact Below.refl _ _).mono HB1.out.size)
  have HK2 : Hid (w2.heap[w.heap.size]? = some (.cells #[.slice A.p X.pc.length A.kp, .int .i64 X.sz, .slice A.h X.hd.length A.kh, .slice A.l X.ln.length A.kl, .slice A.e X.hl.length A.ke, .slice A.s X.hs.length A.ks, .int .i64 X.td] 37)) := ((show Below w1.heap.size w1 w2 from by rw [b]; exact Below.refl _ _).block _ (kbox HK1.out)).trans HK1.out
  clear b hq HB1 HK1 q2 x1 q1
  by_cases p2 : 0 ≤ r2
  case neg =>
    have hd : decide (r2 < 0) = true := decide_eq_true (by omega)
    go_wp2_with fail
    go_ret
    exact ⟨⟨-1, rfl, fun h => by omega⟩, HB2.out⟩
  have hd2 : decide (r2 < 0) = false := decide_eq_false (by omega)
  have x2 : w2.cell? ⟨w.heap.size, 3, none⟩ = some (.slice A.l X.ln.length A.kl) := box_cell HK2.out 3
  go_wp2_with fail
  refine (szFrameS_left A.l A.kl X.ln r2 w2 p2 hle2 HCN.out.zl HCN.out.nl (HZ.out _ HB2.out).l).mono ?_
  rintro e w3 ⟨⟨r3, rfl, q1, hq⟩, b⟩
  have hle3 : r3 ≤ 1048576 := by omega
  have HQ3 : Hid (0 ≤ r3 → X.ln.length ≤ 1048576) := fun h => by have := hq h; omega
  have HB3 : Hid (Below w.heap.size w w3) := HB2.out.trans (b.mono HB2.out.size)
  have HK3 : Hid (w3.heap[w.heap.size]? = some (.cells #[.slice A.p X.pc.length A.kp, .int .i64 X.sz, .slice A.h X.hd.length A.kh, .slice A.l X.ln.length A.kl, .slice A.e X.hl.length A.ke, .slice A.s X.hs.length A.ks, .int .i64 X.td] 37)) := (b.block _ (kbox HK2.out)).trans HK2.out
  clear b hq HB2 HK2 x2 q1
  by_cases p3 : 0 ≤ r3
  case neg =>
    have hd : decide (r3 < 0) = true := decide_eq_true (by omega)
    go_wp2_with fail
    go_ret
    exact ⟨⟨-1, rfl, fun h => by omega⟩, HB3.out⟩
  have hd3 : decide (r3 < 0) = false := decide_eq_false (by omega)
  have x3 : w3.cell? ⟨w.heap.size, 4, none⟩ = some (.slice A.e X.hl.length A.ke) := box_cell HK3.out 4
  go_wp2_with fail
  refine (szStringS_l A.e A.ke X.hl r3 w3 p3 hle3 HCN.out.ze HCN.out.ne (HZ.out _ HB3.out).e).mono ?_
  rintro e w4 ⟨⟨r4, rfl, q1, q2, hq⟩, b⟩
  have hle4 : r4 ≤ 1048576 := by omega
  have HQ4 : Hid (0 ≤ r4 → X.hl.length ≤ 1048576) := fun h => by have := hq h; omega
  have HB4 : Hid (Below w.heap.size w w4) := HB3.out.trans ((show Below w3.heap.size w3 w4 from by rw [b]; exact Below.refl _ _).mono HB3.out.size)
  have HK4 : Hid (w4.heap[w.heap.size]? = some (.cells #[.slice A.p X.pc.length A.kp, .int .i64 X.sz, .slice A.h X.hd.length A.kh, .slice A.l X.ln.length A.kl, .slice A.e X.hl.length A.ke, .slice A.s X.hs.length A.ks, .int .i64 X.td] 37)) := ((show Below w3.heap.size w3 w4 from by rw [b]; exact Below.refl _ _).block _ (kbox HK3.out)).trans HK3.out
  clear b hq HB3 HK3 q2 x3 q1
  by_cases p4 : 0 ≤ r4
  case neg =>
    have hd : decide (r4 < 0) = true := decide_eq_true (by omega)
    go_wp2_with fail
    go_ret
    exact ⟨⟨-1, rfl, fun h => by omega⟩, HB4.out⟩
  have hd4 : decide (r4 < 0) = false := decide_eq_false (by omega)
  have x4 : w4.cell? ⟨w.heap.size, 5, none⟩ = some (.slice A.s X.hs.length A.ks) := box_cell HK4.out 5
  go_wp2_with fail
  refine (szBoolS_any A.s A.ks X.hs.length r4 w4 p4 hle4 HCN.out.ns).mono ?_
  rintro e w5 ⟨⟨r5, rfl, q1, q2, hq⟩, b⟩
  have hle5 : r5 ≤ 1048576 := by omega
  have HQ5 : Hid (0 ≤ r5 → X.hs.length ≤ 1048576) := fun h => by have := hq h; omega
  have HB5 : Hid (Below w.heap.size w w5) := HB4.out.trans ((show Below w4.heap.size w4 w5 from by rw [b]; exact Below.refl _ _).mono HB4.out.size)
  have HK5 : Hid (w5.heap[w.heap.size]? = some (.cells #[.slice A.p X.pc.length A.kp, .int .i64 X.sz, .slice A.h X.hd.length A.kh, .slice A.l X.ln.length A.kl, .slice A.e X.hl.length A.ke, .slice A.s X.hs.length A.ks, .int .i64 X.td] 37)) := ((show Below w4.heap.size w4 w5 from by rw [b]; exact Below.refl _ _).block _ (kbox HK4.out)).trans HK4.out
  clear b hq HB4 HK4 q2 x4 q1
  by_cases p5 : 0 ≤ r5
  case neg =>
    have hd : decide (r5 < 0) = true := decide_eq_true (by omega)
    go_wp2_with fail
    go_ret
    exact ⟨⟨-1, rfl, fun h => by omega⟩, HB5.out⟩
  have hd5 : decide (r5 < 0) = false := decide_eq_false (by omega)
  go_wp2_with fail
  go_ret
  exact ⟨⟨_, rfl, fun _ => ⟨HQ1.out p1, HQ2.out p2, HQ3.out p3, HQ4.out p4, HQ5.out p5⟩⟩, HB5.out⟩
/-- what toWindow keeps: three boxes -/
structure TW (w : World) (U Z Y : Array Value) (wr : World) : Prop where
  below : Below w.heap.size w wr
  x : wr.heap[w.heap.size]? = some (.cells U 37)
  z : wr.heap[w.heap.size + 1]? = some (.cells Z 27)
  y : wr.heap[w.heap.size + 1 + 1]? = some (.cells Y 27)
theorem TW.size {w : World} {U Z Y : Array Value} {wr : World} (h : TW w U Z Y wr) : w.heap.size + 3 ≤ wr.heap.size := by
  have := kbox h.y
  omega
theorem TW.on {w : World} {U Z Y : Array Value} {wr w' : World} (h : TW w U Z Y wr) (g : Below wr.heap.size wr w') : TW w U Z Y w' := by
  have hs := h.size
  exact ⟨h.below.trans (g.mono (by omega)), (g.block _ (by omega)).trans h.x, (g.block _ (by omega)).trans h.z, (g.block _ (by omega)).trans h.y⟩
theorem TW.setY {w : World} {U Z Y : Array Value} {wr : World} (h : TW w U Z Y wr) (i : Nat) (u : Value) : TW w U Z (Y.setIfInBounds i u) (wr.setCell ⟨w.heap.size + 1 + 1, i, none⟩ u) :=
  ⟨setB h.below _ _ (by omega) _, (keepB _ _ _ _ _ (by omega)).trans h.x, (keepB _ _ _ _ _ (by omega)).trans h.z, box_set h.y i u⟩
theorem TW.start (w : World) (U : Array Value) : TW w U #[.slice none 0 0, .int .i64 0, .slice none 0 0, .slice none 0 0, .slice none 0 0, .slice none 0 0, .int .i64 0] #[.slice none 0 0, .int .i64 0, .slice none 0 0, .slice none 0 0, .slice none 0 0, .slice none 0 0, .int .i64 0] (((w.alloc (.cells U 37)).alloc (.cells #[.slice none 0 0, .int .i64 0, .slice none 0 0, .slice none 0 0, .slice none 0 0, .slice none 0 0, .int .i64 0] 27)).alloc (.cells #[.slice none 0 0, .int .i64 0, .slice none 0 0, .slice none 0 0, .slice none 0 0, .slice none 0 0, .int .i64 0] 27)) := by
  refine ⟨(((Below.refl _ _).alloc (Nat.le_refl _) _).alloc (by simp) _).alloc (by simp; omega) _, ?_, ?_, heap_last3 _ _ _ _⟩
  · rw [Below.heap_alloc _ _ _ (by simp; omega), Below.heap_alloc _ _ _ (by simp)]
    exact heap_last _ _
  · rw [Below.heap_alloc _ _ _ (by simp)]
    exact heap_last2 _ _ _
theorem to_ownS (a : Option Addr) (cap : Nat) (l : List ByteArray) (w : World) (hn : l.length ≤ 1048576) (hI : Ss w.heap.size a l w) :
    Calls Try.prog 11 #[.slice a l.length cap] w fun e w' => ∃ b, e = .returned (.slice b l.length l.length) ∧ OwnS w.heap.size w'.heap.size b l w' ∧ Below w.heap.size w w' :=
  (toStringS_any a cap l w hn hI).mono fun _ _ ⟨he, hr, hb⟩ => ⟨_, he, Or.inr ⟨_, Nat.le_refl _, hr.lt, rfl, hr⟩, hb⟩
theorem to_ownF (a : Option Addr) (cap : Nat) (l : List Fr) (w : World) (hn : l.length ≤ 1048576) (hI : Fs w.heap.size a l w) :
    Calls Try.prog 52 #[.slice a l.length cap] w fun e w' => ∃ b, e = .returned (.slice b l.length l.length) ∧ OwnF w.heap.size w'.heap.size b l w' ∧ Below w.heap.size w w' :=
  (toFrameS_any a cap l w hn hI).mono fun _ _ ⟨he, hr, hb⟩ => ⟨_, he, Or.inr ⟨_, Nat.le_refl _, hr.lt, rfl, hr⟩, hb⟩
end Go.Proofs.Ytaiilhhkfjlkoaa
