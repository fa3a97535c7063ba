/- The program's undoing.backOver, whatever its function does. -/
import Derived.Test.YtgompioaknfjgabUwGi
namespace Go.Proofs.Ytgompioaknfjgab
set_option maxRecDepth 100000
open Go Go.ChangeShapes Go.WideShapes Go.ChangeAt Go.RowKit Go.Shelf
attribute [local go_sem] Oper.semAt_some
set_option maxHeartbeats 4000000 in
theorem back_inK (F : Fence) (n : Nat) (h6 : F.fn 42) (hro : F.round = none) (hn : 1 ≤ n) (l Bm cap : Nat) (a : Option Addr) (S : List Nt) (hlen : S.length ≤ 1048576) (J Jx : List (Fin S.length) → World → Prop) (Rd : World → Prop) (hRd : ∀ W, Rd W → W.cell? ⟨Bm, 0, none⟩ = some (.slice a S.length cap) ∧ Nts W.heap.size a S W)
    (W : World)
    (hY : ∀ pre (k : Fin S.length) W, J pre W → pre.length < S.length → YieldAt F (n - 1) Try.prog l #[.int .i64 (k.1 : Int), nv S k] W fun e W' =>
      (e = .returned (.bool true) ∧ J (pre ++ [k]) W' ∧ (Rd W → Rd W')) ∨ (e = .returned (.bool false) ∧ Jx (pre ++ [k]) W'))
    (hR0 : Rd W) (h0 : J [] W) :
    CallsIn F n Try.prog 42 #[.func (.yield l) #[] #[], .pointer (some ⟨Bm, 0, none⟩)] W fun e W' => (∃ v, e = .returned v) ∧
      ((∃ ys, ys = bkT S S.length ∧ J ys W') ∨ (∃ pre, (∃ k, k ≤ S.length ∧ pre = bkT S k) ∧ Jx pre W')) := by
  have HY := hid hY
  have HRD := hid hRd
  have HR0 := hid hR0
  have hcm := (hRd W hR0).1
  have HT := hid (bkT_succ S)
  have HTL := hid (bkT_length S)
  clear hY hRd hR0
  have hw0 : wrap64 ((S.length : Int) - 1) = (S.length : Int) - 1 := by unfold wrap64; omega
  refine callsIn_of_wp Try.func42 rfl h6 ?_ hro
  simp only [Try.ntmps42, List.size_toArray, List.length_cons, List.length_nil, Nat.reduceAdd, Nat.reduceSub, Array.replicate_succ, Array.replicate_zero, List.push_toArray, List.append_toArray, List.nil_append, List.cons_append]
  gi_wp2
  clear hcm
  gi_loopw [3] (fun i wr => ∃ k : Nat, k ≤ S.length ∧ i = .int .i64 ((S.length : Int) - 1 - k) ∧ J (bkT S k) wr ∧ Rd wr) (fun i _ => (intOf i + 1).toNat)
  case atStart => exact ⟨0, Nat.zero_le _, by simp, by simpa [bkT] using h0, HR0.out⟩
  case round =>
    obtain ⟨k, hk, rfl, hJs, hbel⟩ := hrel
    have HJS := hid hJs
    have HBEL := hid hbel
    clear hJs hw0
    have hx0 := (HRD.out wr hbel).1
    by_cases hlt : k < S.length
    · obtain ⟨m, hm⟩ : ∃ m, m = S.length - 1 - k := ⟨_, rfl⟩
      have hml : m < S.length := by omega
      have hmi : (S.length : Int) - 1 - k = (m : Int) := by omega
      obtain ⟨b, off, rfl, hb, hc⟩ := (HRD.out wr hbel).2.cell (by omega)
      obtain ⟨c0, c1, c2, c3, c4⟩ := hc m hml
      clear hbel hc
      have HYk : Hid (YieldAt F (n - 1) Try.prog l #[.int .i64 (m : Int), .agg #[.int .i64 S[m].kd, .int .i64 S[m].wh, .int .i64 S[m].cl, .int .i64 S[m].ws, .int .i64 S[m].is]] wr fun e W' => (e = .returned (.bool true) ∧ J (bkT S (k + 1)) W' ∧ (Rd wr → Rd W')) ∨ (e = .returned (.bool false) ∧ Jx (bkT S (k + 1)) W')) := by
        show YieldAt F (n - 1) Try.prog l #[.int .i64 (m : Int), .agg #[.int .i64 S[m].kd, .int .i64 S[m].wh, .int .i64 S[m].cl, .int .i64 S[m].ws, .int .i64 S[m].is]] wr fun e W' => (e = .returned (.bool true) ∧ J (bkT S (k + 1)) W' ∧ (Rd wr → Rd W')) ∨ (e = .returned (.bool false) ∧ Jx (bkT S (k + 1)) W')
        have := HY.out (bkT S k) ⟨m, hml⟩ wr HJS.out (by rw [HTL.out k (by omega)]; exact hlt)
        have e := HT.out k hlt
        subst hm
        rw [← e] at this
        exact this
      rw [hmi]
      have hwm : wrap64 ((m : Int) - 1) = (m : Int) - 1 := by unfold wrap64; omega
      have HNX : Hid ((m : Int) - 1 = (S.length : Int) - 1 - ((k + 1 : Nat) : Int)) := by show (m : Int) - 1 = _; omega
      have hge : decide ((0 : Int) ≤ (m : Int)) = true := decide_eq_true (by omega)
      clear hmi hm
      generalize S[m].kd = p0 at *
      generalize S[m].wh = p1 at *
      generalize S[m].cl = p2 at *
      generalize S[m].ws = p3 at *
      generalize S[m].is = p4 at *
      obtain ⟨fn, tmps, assign, body, hy, hR⟩ := HYk.out
      clear HYk
      gi_wp2
      refine hR.mono ?_
      rintro e W3 (⟨rfl, hJ3, hk3⟩ | ⟨rfl, hJx3⟩)
      · have HJ3 := hid hJ3
        have HK3 : Hid (Rd W3) := hk3 HBEL.out
        clear hJ3 hk3 hR
        gi_wp2
        go_roundw
        case rel => exact ⟨k + 1, hlt, by rw [HNX.out], HJ3.out, HK3.out⟩
        case measure => simp [intOf]
      · have HJX := hid hJx3
        clear hJx3 hR
        gi_wp2
        refine bodyPost_ret (results_none rfl _ _ _) rfl ?_
        exact ⟨⟨_, rfl⟩, .inr ⟨_, ⟨k + 1, hlt, rfl⟩, HJX.out⟩⟩
    · obtain rfl : k = S.length := by omega
      have hge : decide ((0 : Int) ≤ (S.length : Int) - 1 - (S.length : Int)) = false := decide_eq_false (by omega)
      clear hbel hlt hk
      gi_wp2
      go_end0
      exact ⟨⟨_, rfl⟩, .inl ⟨_, rfl, HJS.out⟩⟩
theorem back_stopsK (F : Fence) (n : Nat) (h6 : F.fn 42) (hro : F.round = none) (hn : 1 ≤ n) (Bm cap : Nat) (a : Option Addr) (S : List Nt) (w : World) (hlen : S.length ≤ 1048576) (Rd : World → Prop) (hRd : ∀ W, Rd W → W.cell? ⟨Bm, 0, none⟩ = some (.slice a S.length cap) ∧ Nts W.heap.size a S W) (hRb : ∀ W, Below w.heap.size w W → Rd W) :
    SeqStopsK F n Try.prog 42 #[.pointer (some ⟨Bm, 0, none⟩)] (fun k : Fin S.length => #[Value.int .i64 (k.1 : Int), nv S k]) (fun W W' => Rd W → Rd W') (fun ys => ys = bkT S S.length) (fun pre => ∃ k, k ≤ S.length ∧ pre = bkT S k) S.length w := fun l J Jx W hW _ _ hY h0 =>
  back_inK F n h6 hro hn l Bm cap a S hlen J Jx Rd hRd W hY (hRb W hW) h0
/-- whether a note is one to be taken back -/
def condB (S : List Nt) (op : List Int) (x : Fin S.length) : Bool := decide (S[x.1].kd = 2) && (decide ((fromI S S[x.1].wh : Int) < (x.1 : Int)) && decide (S[x.1].wh ∈ op))
theorem Below.outP {n : Nat} {W W' : World} (h : Below W.heap.size W W') : OutP (fun b => b < n) W W' := OutP.on h
theorem OutP.keeps {n : Nat} {W W' : World} (h : OutP (fun b => b < n) W W') : KeepsFrom n W W' := ⟨h.size, fun k o hk ho hc => (h.block k (Array.getElem?_eq_some_iff.1 ho).1 (by omega)).trans ho⟩
end Go.Proofs.Ytgompioaknfjgab
