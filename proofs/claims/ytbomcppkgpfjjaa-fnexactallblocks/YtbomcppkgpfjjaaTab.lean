/- The places of sixteen blocks as a list. -/
import Derived.Test.YtbomcppkgpfjjaaIntR
import Derived.Test.YtbomcppkgpfjjaaMPlain
namespace Go.Proofs.Ytbomcppkgpfjjaa
set_option maxRecDepth 100000
open Go Go.RowKit G00541
def tab (f : Nat → Int) : List Int := (List.range 16).map f
theorem tab_len (f : Nat → Int) : (tab f).length = 16 := by simp [tab]
theorem tab_at (f : Nat → Int) (b : Nat) (h : b < (tab f).length) : (tab f)[b] = f b := by simp [tab]
theorem tab_ext (f g : Nat → Int) (h : ∀ b, b < 16 → f b = g b) : tab f = tab g := by
  unfold tab
  exact List.map_congr_left fun b hb => h b (List.mem_range.1 hb)
theorem tab_of (l : List Int) (h : l.length = 16) : l = tab (fun b => l.getD b 0) := by
  apply List.ext_getElem
  · rw [tab_len, h]
  · intro i h1 h2
    rw [tab_at, List.getD_eq_getElem?_getD, List.getElem?_eq_getElem h1]; rfl
def ivals (l : List Int) : List Value := l.map fun n => .int .i64 n
end Go.Proofs.Ytbomcppkgpfjjaa
