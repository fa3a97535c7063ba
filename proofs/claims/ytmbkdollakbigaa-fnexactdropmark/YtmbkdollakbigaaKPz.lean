/- What putting a block into a layer comes to, in both of the model's cases. -/
import Derived.Test.YtmbkdollakbigaaKWrP
namespace Go.Proofs.Ytmbkdollakbigaa
set_option maxRecDepth 100000
open Go Go.ChangeShapes Go.WideShapes Go.ChangeAt Go.RowKit
theorem atB_place {bl : List Int} {dt : List ByteArray} (hs : bl.Pairwise (· < ·)) (hl : dt.length = bl.length) (z : ByteArray) (i : Nat) (hi : i < bl.length) : ∀ d, i + 1 + d ≤ bl.length → atB bl dt bl[i] z (i + 1 + d) = dt[i]'(by omega)
  | 0, _ => (atB_yes bl dt bl[i] z i hi (by omega) rfl).symm
  | d + 1, h => by
    have ih := atB_place hs hl z i hi d (by omega)
    have hne : ¬ bl[i + 1 + d]'(by omega) = bl[i] := fun e => by
      rw [List.pairwise_iff_getElem] at hs
      have := hs i (i + 1 + d) hi (by omega) (by omega)
      omega
    have := atB_no bl dt bl[i] z (i + 1 + d) (by omega) hne
    rw [← ih]
    exact this.symm
/-- a layer's data are what its blocks have -/
theorem dt_map {bl : List Int} {dt : List ByteArray} (hs : bl.Pairwise (· < ·)) (hl : dt.length = bl.length) (z : ByteArray) : bl.map (fun y => atB bl dt y z bl.length) = dt := by
  apply List.ext_getElem (by simp [hl])
  intro i h1 h2
  have hi : i < bl.length := by simpa using h1
  rw [List.getElem_map]
  have := atB_place hs hl z i hi (bl.length - (i + 1)) (by omega)
  have e : i + 1 + (bl.length - (i + 1)) = bl.length := by omega
  rw [e] at this
  exact this
theorem putLy_there {z : Ly} (hz : lyOk z) (b : Int) (s : ByteArray) (h : lesN b z.bl < z.bl.length) (hg : z.bl.getD (lesN b z.bl) 0 = b) : putLy z b s = ⟨z.mark, z.bl, z.dt.set (lesN b z.bl) s⟩ := by
  have hp := rise_pw hz.1
  have hb : z.bl[lesN b z.bl] = b := by
    rw [List.getD_eq_getElem?_getD, List.getElem?_eq_getElem h] at hg
    exact hg
  have h1 := map_there (fun y => atB z.bl z.dt y ⟨#[0, 0]⟩ z.bl.length) b s z.bl hp (lesN b z.bl) h hb
  rw [dt_map hp hz.2.1] at h1
  unfold putLy
  rw [insU_there b z.bl h hg, h1]
  rfl
theorem putLy_new {z : Ly} (hz : lyOk z) (b : Int) (s : ByteArray) (h : lesN b z.bl < z.bl.length → z.bl.getD (lesN b z.bl) 0 ≠ b) :
    putLy z b s = ⟨z.mark, z.bl.take (lesN b z.bl) ++ b :: z.bl.drop (lesN b z.bl), z.dt.take (lesN b z.bl) ++ s :: z.dt.drop (lesN b z.bl)⟩ := by
  have hp := rise_pw hz.1
  have hn := not_mem_new b z.bl hp h
  have h1 := map_not (fun y => atB z.bl z.dt y ⟨#[0, 0]⟩ z.bl.length) b s z.bl hn
  rw [dt_map hp hz.2.1] at h1
  have h1' : z.bl.map (putT z b s) = z.dt := h1
  unfold putLy
  rw [insU_new b z.bl h, List.map_append, List.map_cons, List.map_take, List.map_drop, h1']
  have e : putT z b s b = s := if_pos rfl
  rw [e]
end Go.Proofs.Ytmbkdollakbigaa
