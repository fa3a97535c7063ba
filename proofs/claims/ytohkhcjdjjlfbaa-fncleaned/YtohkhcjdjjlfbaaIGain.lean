/- Walk of the program's gainOf. -/
import Derived.Test.YtohkhcjdjjlfbaaIPk0
import Derived.Deep.RegionHeld
namespace Go.Proofs.Ytohkhcjdjjlfbaa
set_option maxRecDepth 100000
open Go.ChangeShapes Go.WideShapes Go.ChangeAt Go.RowKit G00541
set_option maxHeartbeats 2000000 in
theorem gainOf_any (aS aL : Option Addr) (kS kL : Nat) (S : List Sg) (L : List (List Bool)) (k : Nat) (w : World) (hl : L.length = S.length) (hg : goodH S L = true) (hk : k < S.length) (hG : Gs w.heap.size aS S w) (hV : Vs w.heap.size aL L w) :
    Calls Try.prog 54 #[.agg #[.slice aS S.length kS, .slice aL L.length kL], .int .i64 k] w fun e w' => e = .returned (.tuple #[.int .i64 ((6 - (cntAt L k : Int)) * (ageAt S k + 1)), .int .i64 ((cntAt L k : Int) + 6)]) ∧ Below w.heap.size w w' := by
  have HB := hid (Bx.start w (.cells #[.slice aS S.length kS, .slice aL L.length kL] 26))
  have y0 := box_cell HB.out.box 0
  have y1 := box_cell HB.out.box 1
  have HLB := hid (liveBlocks_n aS aL kS kL S L k _ hl hg hk ((hG.below HB.out.below).mono HB.out.below.size) ((hV.below HB.out.below).mono HB.out.below.size))
  have hx := cntAt_le S L hl hg k hk
  have ha := ageAt_le S L hl hg k hk
  obtain ⟨b, off, rfl, hb, hcl⟩ := hG (by omega)
  obtain ⟨_, _, _, ci, _⟩ := hcl k hk
  rw [← ageAt_eq S k hk] at ci
  have CI := hid ci
  clear hV hcl ci hg hG hl
  generalize cntAt L k = x at *
  generalize ageAt S k = ax at *
  generalize L.length = nl at *
  have m1 := mul_bd (a := 6 - (x : Int)) (b := ax + 1) (A := 6) (B := 1001) (by omega) (by omega) (by omega) (by omega)
  generalize hW : w.alloc (.cells #[.slice (some ⟨b, off, none⟩) S.length kS, .slice aL nl kL] 26) = W at *
  go_enter Try.func54, Try.ntmps54
  go_wp2_with fail
  refine HLB.out.mono ?_
  rintro e w2 ⟨b2, c2, rfl, hb2⟩
  have HB2 := hid (HB.out.on hb2)
  clear hb2 hW y0 y1 HB HLB
  have y0 := box_cell HB2.out.box 0
  have ci : w2.cell? ⟨b, off + k * 2 + 1, none⟩ = some (.int .i64 ax) := (HB2.out.below.cell (p := ⟨b, off + k * 2 + 1, none⟩) hb).trans CI.out
  go_wp2_with fail
  go_ret2
  exact ⟨rfl, HB2.out.below⟩
end Go.Proofs.Ytohkhcjdjjlfbaa
