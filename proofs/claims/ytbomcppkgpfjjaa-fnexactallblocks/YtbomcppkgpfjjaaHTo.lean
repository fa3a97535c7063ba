/- Walks of the laws' own copies of heaps. -/
import Derived.Test.YtbomcppkgpfjjaaHOwn
namespace Go.Proofs.Ytbomcppkgpfjjaa
set_option maxRecDepth 100000
open Go.ChangeShapes Go.WideShapes Go.ChangeAt Go.RowKit G00541
theorem set_take {α : Type} (ys l : List α) (k : Nat) (hy : ys.length = l.length) (hk : k < l.length) (h : ys.take k = l.take k) : (ys.set k l[k]).take (k + 1) = l.take (k + 1) := by
  have hky : k < ys.length := by omega
  rw [take_snoc _ k (by simpa using hky), take_snoc l k hk, List.take_set_of_le (Nat.le_refl _), h, List.getElem_set_self]
set_option maxHeartbeats 1000000 in
theorem toSegS_any (a : Option Addr) (cap : Nat) (S : List Sg) (w : World) (hn : S.length ≤ 1048576) (hf : ∀ k (h : k < S.length), S[k].bl.length ≤ 1048576) (hG : Gs w.heap.size a S w) :
    Calls Try.prog 17 #[.slice a S.length cap] w fun e w' => e = .returned (.slice (some ⟨w.heap.size, 0, none⟩) S.length S.length) ∧ (∃ q c f, SegOwn w.heap.size w'.heap.size w.heap.size q c f S w') ∧ Below w.heap.size w w' := by
  have HG := hid hG
  have HF := hid hf
  clear hG hf
  have hmk := make_segs S.length hn
  have hr0 := SegOwn.made w S.length
  generalize madeCells (Value.agg #[.slice none 0 0, .int .i64 0]).cells (S.length * 2) = M at *
  have HR : Hid (SegOwn w.heap.size (w.alloc (.cells M 43)).heap.size w.heap.size (fun _ => none) (fun _ => 0) (fun _ => 0) (List.replicate S.length ⟨[], 0⟩) (w.alloc (.cells M 43))) := by
    show SegOwn w.heap.size (w.alloc (.cells M 43)).heap.size w.heap.size (fun _ => none) (fun _ => 0) (fun _ => 0) (List.replicate S.length ⟨[], 0⟩) (w.alloc (.cells M 43))
    rw [heap_size]
    exact hr0
  clear hr0
  go_enter Try.func17, Try.ntmps17
  go_wp2_with fail
  go_loopw [4] (fun i wr => ∃ (k : Nat) (ys : List Sg), k ≤ S.length ∧ i = .int .i64 k ∧ ys.length = S.length ∧ ys.take k = S.take k ∧ (∃ q c f, SegOwn w.heap.size wr.heap.size w.heap.size q c f ys wr) ∧ Below w.heap.size w wr) (fun i _ => S.length - (intOf i).toNat)
  case atStart => exact ⟨0, List.replicate S.length ⟨[], 0⟩, Nat.zero_le _, rfl, by simp, rfl, ⟨_, _, _, HR.out⟩, boxB w _⟩
  case round =>
    clear HR hmk
    obtain ⟨k, ys, hk, rfl, hy, htk, ⟨q, cq, f, hrow⟩, hbel⟩ := hrel
    have HROW := hid hrow
    have HBEL := hid hbel
    have HTK := hid htk
    by_cases hlt : k < S.length
    · obtain ⟨b, off, rfl, hb, hcl⟩ := HG.out (by omega)
      obtain ⟨p, c, c0, c1, hI⟩ := hcl k hlt
      rw [← hbel.cell (p := ⟨b, off + k * 2, none⟩) hb] at c0
      rw [← hbel.cell (p := ⟨b, off + k * 2 + 1, none⟩) hb] at c1
      obtain ⟨y0, y1⟩ := hrow.cell k (by omega)
      have f0 := hrow.free (k * 2) (by omega)
      have f1 := hrow.free (k * 2 + 1) (by omega)
      have hszr := hbel.size
      have hltr : w.heap.size < wr.heap.size := hrow.r1
      have hm := HF.out k hlt
      have HST := hid (set_take ys S k hy hlt htk)
      generalize hs : S[k] = s at *
      obtain ⟨l, age⟩ := s
      simp only at c0 c1 hm hI
      have HC := hid (toSeg_any p c l age wr hm ((hI.below hbel).mono hszr))
      clear hcl hrow hbel htk hI hs
      go_wp2_with fail
      refine HC.out.mono ?_
      rintro e w1 ⟨b', c', rfl, ho, b1⟩
      have hc1 : ∀ o, w1.cell? ⟨w.heap.size, o, none⟩ = wr.cell? ⟨w.heap.size, o, none⟩ := fun o => b1.cell (p := ⟨w.heap.size, o, none⟩) hltr
      have hf1 : ∀ o, w1.frozen? ⟨w.heap.size, o, none⟩ = wr.frozen? ⟨w.heap.size, o, none⟩ := fun o => b1.frozen (p := ⟨w.heap.size, o, none⟩) hltr
      rw [← hc1] at y0 y1
      rw [← hf1] at f0 f1
      obtain ⟨F, hF⟩ := HROW.out.set b1 k (by omega) l age b' c' ho
      have HSET : Hid (SegOwn w.heap.size ((w1.setCell ⟨w.heap.size, k * 2, none⟩ (.slice b' l.length c')).setCell ⟨w.heap.size, k * 2 + 1, none⟩ (.int .i64 age)).heap.size w.heap.size (updA q k b') (updA cq k c') (updA f k F) (ys.set k ⟨l, age⟩) ((w1.setCell ⟨w.heap.size, k * 2, none⟩ (.slice b' l.length c')).setCell ⟨w.heap.size, k * 2 + 1, none⟩ (.int .i64 age))) := by
        have e : ((w1.setCell ⟨w.heap.size, k * 2, none⟩ (.slice b' l.length c')).setCell ⟨w.heap.size, k * 2 + 1, none⟩ (.int .i64 age)).heap.size = w1.heap.size := by simp [World.setCell]
        unfold Hid
        rw [e]
        exact hF
      have HB1 : Hid (Below w.heap.size w ((w1.setCell ⟨w.heap.size, k * 2, none⟩ (.slice b' l.length c')).setCell ⟨w.heap.size, k * 2 + 1, none⟩ (.int .i64 age))) := setB (setB (HBEL.out.trans (b1.mono hszr)) _ _ (Nat.le_refl _) _) _ _ (Nat.le_refl _) _
      clear hc1 hf1 b1 hF ho HC c0 c1
      go_wp2_with fail
      go_roundw
      case rel => exact ⟨k + 1, ys.set k ⟨l, age⟩, by omega, by go_num, by simpa using hy, HST.out, ⟨_, _, _, HSET.out⟩, HB1.out⟩
      case measure => simp [intOf]; omega
    · obtain rfl : k = S.length := by omega
      rw [List.take_length, List.take_of_length_le (by omega)] at htk
      subst htk
      clear hrow hbel
      go_wp2_with fail
      go_ret
      exact ⟨rfl, ⟨_, _, _, HROW.out⟩, HBEL.out⟩
end Go.Proofs.Ytbomcppkgpfjjaa
