/- Walks of the program's GoodMap, PutStretch, TrimMap, PlaceOf. -/
import Derived.Test.YtmlmllhcoobijabXIn
namespace Go.Proofs.Ytmlmllhcoobijab
set_option maxRecDepth 100000
open Go.ChangeShapes Go.WideShapes Go.ChangeAt Go.RowKit G00541
theorem hid {p : Prop} (h : p) : Hid p := h
theorem placesIn_yes (a : Option Addr) (cap : Nat) (l : List Sx) (w : World) (hfit : FitM l) (hZ : Xs w.heap.size a l w) (hg : goodM l = true) :
    Calls Try.prog 20 #[.slice a l.length cap] w fun e w' => e = .returned (.tuple #[.agg (arr (plN l)), .bool true]) ∧ Below w.heap.size w w' := by
  refine (placesIn_short a cap l w ((good_iff l).1 hg).1 hfit hZ).mono ?_
  rintro e w' ⟨⟨F, rfl, hF⟩, hb⟩
  rw [hF hg, hg]
  exact ⟨rfl, hb⟩
theorem placesIn_no (a : Option Addr) (cap : Nat) (l : List Sx) (w : World) (hn : l.length ≤ 1048576) (hfit : FitM l) (hZ : Xs w.heap.size a l w) (hg : goodM l = false) :
    Calls Try.prog 20 #[.slice a l.length cap] w fun e w' => (∃ F, e = .returned (.tuple #[.agg (arr F), .bool false])) ∧ Below w.heap.size w w' := by
  by_cases h6 : l.length ≤ 16
  · refine (placesIn_short a cap l w h6 hfit hZ).mono ?_
    rintro e w' ⟨⟨F, rfl, _⟩, hb⟩
    rw [hg]
    exact ⟨⟨F, rfl⟩, hb⟩
  · exact placesIn_long a cap l w hn (by omega)
theorem putF_range (F : Nat → Int) (x : Sx) (n : Nat) (hF : ∀ b, b < 16 → -1 ≤ F b ∧ F b ≤ 10000) (h0 : 0 ≤ x.place) (h1 : x.place + n ≤ 10001) : ∀ b, b < 16 → -1 ≤ putF F x n b ∧ putF F x n b ≤ 10000 := fun b hb => by
  unfold putF
  split
  · omega
  · exact hF b hb
theorem cutF_range (F : Nat → Int) (p n : Nat) (hF : ∀ b, b < 16 → -1 ≤ F b ∧ F b ≤ 10000) : ∀ b, b < 16 → -1 ≤ cutF F p n b ∧ cutF F p n b ≤ 10000 := fun b hb => by
  unfold cutF
  split
  · omega
  · exact hF b hb
theorem plN_range (l : List Sx) (hg : goodM l = true) : ∀ b, b < 16 → -1 ≤ plN l b ∧ plN l b ≤ 10000 := fun b _ => pl_range l (chain_all none l hg) b
/-- what a function that tells a map tells: in memory of its own -/
def MapOut (V : List Sx) (ok : Bool) (w : World) (e : Ending) (w' : World) : Prop := ∃ b c, e = .returned (.tuple #[.slice b V.length c, .bool ok]) ∧ OwnX w.heap.size w'.heap.size b V w' ∧ Below w.heap.size w w'
theorem MapOut.of {V : List Sx} {w w' : World} {v : Value} (h : w'.ownsRow w.heap.size 40 3 v V.length (xflat V)) (hb : Below w.heap.size w w') : MapOut V true w (.returned (.tuple #[v, .bool true])) w' := by
  obtain ⟨b, c, rfl, ho⟩ := own_xs h rfl
  exact ⟨b, c, rfl, ho, hb⟩
theorem MapOut.no {w w' : World} (hb : Below w.heap.size w w') : MapOut [] false w (.returned (.tuple #[.slice none 0 0, .bool false])) w' := ⟨none, 0, rfl, Or.inl rfl, hb⟩
theorem own_le {w : World} {B B' : Nat} {e : TypeId} {s : Nat} {v : Value} {n : Nat} {l : List Value} (h : w.ownsRow B e s v n l) (hB : B' ≤ B) : w.ownsRow B' e s v n l := by
  refine ⟨h.1, ?_⟩
  rcases h.2 with h | ⟨g, cap, cur, e1, e2, r⟩
  · exact Or.inl h
  · exact Or.inr ⟨g, cap, cur, e1, by omega, r⟩
end Go.Proofs.Ytmlmllhcoobijab
