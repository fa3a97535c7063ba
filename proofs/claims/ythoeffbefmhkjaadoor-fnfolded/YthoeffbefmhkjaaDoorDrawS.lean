/- Walks of the cursor's records. -/
import Derived.Test.YthoeffbefmhkjaaDoorQA
import Derived.Test.YthoeffbefmhkjaaDoorAllS
namespace Go.Proofs.YthoeffbefmhkjaaDoor
set_option maxRecDepth 100000
open Go.ChangeShapes Go.WideShapes Go.ChangeAt Go.RowKit G00541
theorem grown_but {B : Nat} {w w' : World} (g : But B w w') : w.grownBy w' (some B) := ⟨g.os, g.tape, g.output, g.size, fun j hj hne => g.block j hj (fun e => hne (by rw [e]))⟩
set_option maxHeartbeats 1000000 in
theorem records_any (most : Nat) (B N len cap : Nat) (a : Option Addr) (w : World) (hm : most ≤ 64) (hN : N ≤ 800000) (hC : Cur B N (.slice a len cap) w) (hK : Code B len cap a w) :
    Calls Tryd.prog 31 #[.pointer (some ⟨B, 0, none⟩), .int .i64 (most : Int)] w fun e w' => ∃ (l : List Rc) (v : Value), e = .returned v ∧ l.length ≤ most ∧ (∀ r ∈ l, r.data.length ≤ 9) ∧ w'.ownsRow w.heap.size 36 4 v l.length (rflat l) ∧ Cur B (N + 3000) (.slice a len cap) w' ∧ But B w w' := by
  obtain ⟨i0, hi, hz0, hz1, hz2⟩ := info_parts infoRec
  have hlt := hC.lt
  have HC : Hid (Cur B N (.slice a len cap) w) := hC
  have HK : Hid (Code B len cap a w) := hK
  clear hC hK
  go_enter Tryd.func31, Tryd.ntmps31
  go_wp2_with fail
  refine (pick_any _ B N len cap a _ (by omega) (by omega) (by omega) HC.out HK.out).mono ?_
  rintro e w1 ⟨n, rfl, n0, n1, hC1, hB1⟩
  have HC1 : Hid (Cur B (N + 2) (.slice a len cap) w1) := hC1
  have HB1 : Hid (But B w w1) := hB1
  clear hC1 hB1 HC
  go_wp2
  go_loopw [5, 6] (fun o i wr => ∃ (l : List Rc) (o1 : Value) (m : Int), o = o1 ∧ i = .int .i64 m ∧ 0 ≤ m ∧ (l.length : Int) + m ≤ most ∧ (∀ r ∈ l, r.data.length ≤ 9) ∧ wr.ownsRow w.heap.size 36 4 o1 l.length (rflat l) ∧ Cur B (N + 2 + 40 * l.length) (.slice a len cap) wr ∧ But B w wr) (fun _ i _ => (intOf i).toNat)
  case atStart => exact ⟨[], _, n, rfl, rfl, n0, by simp; omega, (fun _ h => (by cases h)), World.ownsRow_nil _ _ _ _, HC1.out, HB1.out⟩
  case round =>
    obtain ⟨l, _, m, rfl, rfl, m0, hlm, hall, hown, hcur, hbut⟩ := hrel
    have HALL : Hid (∀ r ∈ l, r.data.length ≤ 9) := hall
    have HOWN : Hid (wr.ownsRow w.heap.size 36 4 u5 l.length (rflat l)) := hown
    have HCUR : Hid (Cur B (N + 2 + 40 * l.length) (.slice a len cap) wr) := hcur
    have HBUT : Hid (But B w wr) := hbut
    have HCODE : Hid (Code B len cap a wr) := HK.out.but hbut (Nat.le_refl _) (by omega)
    have hszr := hbut.size
    clear hall hown hcur hbut
    by_cases hp : 0 < m
    · have hd : decide (0 < m) = true := by simpa using hp
      go_wp2_with fail
      refine (record_any B _ len cap a _ (by omega) HCUR.out HCODE.out).mono ?_
      rintro e w2 ⟨r, rfl, hr9, hC2, hB2⟩
      have hs2 := hB2.size
      have HO2 : Hid (w2.ownsRow w.heap.size 36 4 u5 l.length (rflat l)) := HOWN.out.kept (grown_but hB2) (by
        cases hb : u5.ownBlock with
        | none => exact Or.inl rfl
        | some g => exact Or.inr (fun e => by have := (HOWN.out.lt g hb).1; cases e; omega))
      have HC2 : Hid (Cur B (N + 2 + 40 * l.length + 40) (.slice a len cap) w2) := hC2
      have HB2 : Hid (But B w w2) := HBUT.out.trans hB2
      have hone := rcells_one r
      have HF : Hid (rflat (l ++ [r]) = rflat l ++ rcells r) := rflat_snoc l r
      have HL : Hid (∀ x ∈ l ++ [r], x.data.length ≤ 9) := fun x hx => by
        rcases List.mem_append.1 hx with h | h
        · exact HALL.out x h
        · rw [List.mem_singleton] at h; subst h; exact hr9
      have HRC : Hid (rcells r = [.int .i64 r.kind, .int .i64 r.place, .int .i64 r.long, .string (str r.data)]) := rfl
      clear hC2 hB2 hr9
      unfold rval
      generalize rcells r = cs at *
      go_wp2_with (at_builtin; refine wpList_append_own _ rfl (.tmp 15) (.tmp 18) 23 rfl w.heap.size 36 i0 _ 4 40 Tryd.underlying23 hi hz0 hz1 hz2 rfl (by decide) u5 l.length (rflat l) rfl ?own ⟨w2.heap.size, 0, none⟩ 1 1 cs rfl ?len ?news hone ?c3 ?c4 ?c5 ?_)
      case own => exact HO2.out.alloc _
      case len => rw [HRC.out]; rfl
      case news =>
        rw [HRC.out]
        intro j u hj
        match j, hj with
        | 0, hj => simp at hj; subst hj; go_simp
        | 1, hj => simp at hj; subst hj; go_simp
        | 2, hj => simp at hj; subst hj; go_simp
        | 3, hj => simp at hj; subst hj; go_simp
      case c3 => unfold maxLen; omega
      case c4 => omega
      case c5 => simp; omega
      intro v' w9 hown9 hgrow hnil
      have HOWN9 : Hid (w9.ownsRow w.heap.size 36 4 v' (l ++ [r]).length (rflat (l ++ [r]))) := by
        show w9.ownsRow w.heap.size 36 4 v' (l ++ [r]).length (rflat (l ++ [r]))
        rw [HF.out, List.length_append]
        exact hown9
      have g9 : ∀ k, k < w.heap.size → w9.heap[k]? = w2.heap[k]? := fun k hk => (hgrow.block k (by simp; omega) (fun e => by
        cases hb : u5.ownBlock with
        | none => rw [hb] at e; cases e
        | some g => rw [hb] at e; cases e; have := (HO2.out.lt k hb).1; omega)).trans (Below.heap_alloc _ _ _ (by omega))
      have hbel9 : Below w.heap.size w2 w9 := ⟨hgrow.os, hgrow.tape, hgrow.output, by have := hgrow.size; simp at this; omega, g9⟩
      have HB9 : Hid (But B w w9) := ⟨hbel9.os.trans HB2.out.os, hbel9.tape.trans HB2.out.tape, hbel9.output.trans HB2.out.output, Nat.le_trans HB2.out.size hbel9.size, fun k hk hB => (g9 k hk).trans (HB2.out.block k hk hB)⟩
      have HC9 : Hid (Cur B (N + 2 + 40 * l.length + 40) (.slice a len cap) w9) := by
        have hc : ∀ i, w9.cell? ⟨B, i, none⟩ = w2.cell? ⟨B, i, none⟩ := fun i => hbel9.cell (p := ⟨B, i, none⟩) hlt
        have hf : ∀ i, w9.frozen? ⟨B, i, none⟩ = w2.frozen? ⟨B, i, none⟩ := fun i => hbel9.frozen (p := ⟨B, i, none⟩) hlt
        obtain ⟨p, p0, p1, hp⟩ := HC2.out.place
        obtain ⟨s, s0, s1, hs⟩ := HC2.out.seed
        exact ⟨Nat.lt_of_lt_of_le HC2.out.lt hbel9.size, (hc 0).trans HC2.out.code, ⟨p, p0, p1, (hc 1).trans hp⟩, ⟨s, s0, s1, (hc 2).trans hs⟩, (hf 1).trans HC2.out.free1, (hf 2).trans HC2.out.free2⟩
      clear hown9 hgrow hnil g9 hbel9
      go_wp2
      go_roundw
      case rel => exact ⟨l ++ [r], _, m - 1, rfl, rfl, by omega, by rw [List.length_append]; simp; omega, HL.out, HOWN9.out, HC9.out.mono (by rw [List.length_append]; simp; omega), HB9.out⟩
      case measure => simp [intOf]; omega
    · have hd : decide (0 < m) = false := by simpa using hp
      go_wp2
      go_ret
      exact ⟨l, u5, rfl, by omega, HALL.out, HOWN.out, HCUR.out.mono (by omega), HBUT.out⟩
end Go.Proofs.YthoeffbefmhkjaaDoor
