/- blocksOver over slices.Values: the map's keys. -/
import Derived.Test.YtmbkdollakbigaaKOvK
import Derived.Test.YtmbkdollakbigaaKValO
import Derived.Test.YtmbkdollakbigaaKPp
import Derived.Lib.SlKeysI
namespace Go.Proofs.Ytmbkdollakbigaa
set_option maxRecDepth 100000
open Go Go.ChangeShapes Go.WideShapes Go.ChangeAt Go.RowKit Go.Shelf
theorem overVK_any (Bm : Nat) (a : Option Addr) (cap : Nat) (S : List Ly) (w : World) (h0 : 0 < S.length) (hn : S.length ≤ 1048576) (hL : ∀ k (h : k < S.length), S[k].bl.length ≤ 1048576 ∧ lyOk S[k]) (hBm : Bm < w.heap.size)
    (hcm : w.cell? ⟨Bm, 0, none⟩ = some (.slice a S.length cap)) (hG : Ys w.heap.size a S w) :
    Calls Try.prog 24 #[.func (.func 57) #[] #[.pointer (some ⟨Bm, 0, none⟩)]] w fun e w' => e = .returned (.map (some w.heap.size)) ∧ (∃ (D : DataW Unit) (N : Nat), w'.ownsMap Try.prog 3 keptE w.heap.size N D ∧ N ≤ S.length * 1048576 ∧ TellsK D (fun y => atL S y S.length) (KP S (upT S S.length))) ∧ Below w.heap.size w w' := by
  obtain ⟨b, off, A, rfl, hA⟩ := hG.pick h0
  exact (callsIn_wide (n := 6)).1 (blocksOverK_in Fence.wide 6 trivial rfl (by omega) 57 _ trivial (enters_of Try.func57 (by kernel_rfl) rfl) S A b off S.length w hn (Nat.le_refl _) _
    (fun W0 g0 => values_stops Fence.wide 5 trivial rfl (by omega) Bm w.heap.size b off cap S A W0 hn hBm g0.size ((g0.cell (p := ⟨Bm, 0, none⟩) hBm).trans hcm) (hA.below g0)) hA
    (fun k hk => ⟨(hL k hk).1, (hL k hk).2.2.1, fun j hj => ((hL k hk).2.1 j hj).2⟩))
theorem kp_one (z : Ly) (x : Int) : KP [z] (upT [z] 1) x ↔ x ∈ z.bl := by
  have e : upT [z] 1 = [⟨0, by simp⟩] := by rw [upT_succ [z] 0 (by simp)]; simp [upT]
  rw [e]
  unfold KP
  constructor
  · rintro ⟨k, h, g⟩
    rw [List.mem_singleton] at h
    subst h
    exact g
  · intro h
    exact ⟨_, List.mem_singleton.2 rfl, h⟩
theorem mem_sortedK {a b : List Int} (ha : a.Pairwise (· < ·)) (h : b.Perm a) : sortN b = a := sorted_eqK (sortN_sorted _) (ha.imp (fun h => Int.le_of_lt h)) ((sortN_perm _).trans h)
/-- the keys of a map of one's own, in order, and how many -/
theorem keysK {D : DataW Unit} {T : Int → ByteArray} {K : Int → Prop} {w : World} {M N : Nat} (h : TellsK D T K) (ho : w.ownsMap Try.prog 3 keptE M N D) (L : List Int) (hs : L.Pairwise (· < ·)) (hK : ∀ x, x ∈ L ↔ K x) :
    sortN (intKeys D) = L ∧ Maps.size D = L.length := by
  have nd : L.Nodup := hs.imp (fun h => Int.ne_of_lt h)
  have hp : L.Perm (intKeys D) := CollectedI.perm (left := fun _ => false) ⟨nd, fun x => by rw [h.2 x, hK x]; simp⟩ ho (Maps.int_keyed Try.underlying3) Try.underlying3 (fun _ => rfl)
  refine ⟨mem_sortedK hs hp.symm, ?_⟩
  rw [hp.length_eq]
  obtain ⟨es, rfl⟩ := h.1.1
  rw [Maps.size_eq]
  simp [intKeys]
end Go.Proofs.Ytmbkdollakbigaa
