/- Marks laid and held over layers. -/
import Derived.Test.YtiionfmpbifbcaaKTo
namespace Go.Proofs.Ytiionfmpbifbcaa
set_option maxRecDepth 100000
open Go Go.ChangeShapes Go.WideShapes Go.ChangeAt Go.RowKit
theorem updA_id {α : Type} (f : Nat → α) (k : Nat) : updA f k (f k) = f := by
  funext i
  unfold updA
  split
  · rename_i h; rw [h]
  · rfl
def kmk (y : Ly) (k : Nat) : Ly := ⟨(k : Int), imarks y.bl.length (k + 1), smarks y.dt.length (k + 1 + y.bl.length)⟩
def kmarks : List Ly → Nat → List Ly
  | [], _ => []
  | y :: l, k => kmk y k :: kmarks l (k + wtY y)
theorem kmarks_len : ∀ (S : List Ly) (k : Nat), (kmarks S k).length = S.length
  | [], _ => rfl
  | y :: l, k => by show (kmarks l _).length + 1 = l.length + 1; rw [kmarks_len l]
theorem kmarks_at : ∀ (S : List Ly) (k i : Nat) (h : i < S.length) (h' : i < (kmarks S k).length), (kmarks S k)[i] = kmk S[i] (k + wtK (S.take i))
  | y :: l, k, 0, _, _ => rfl
  | y :: l, k, i + 1, h, h' => by
    have hl : i < l.length := by simpa using h
    have := kmarks_at l (k + wtY y) i hl (by rw [kmarks_len]; exact hl)
    show (kmarks l (k + wtY y))[i]'_ = kmk l[i] (k + wtK (y :: l.take i))
    rw [this]
    have e : wtK (y :: l.take i) = wtY y + wtK (l.take i) := by unfold wtK; rw [List.map_cons, List.sum_cons]
    rw [e, Nat.add_assoc]
theorem wt_kmarks (S : List Ly) (k : Nat) : wtK (kmarks S k) = wtK S := by
  unfold wtK
  have : (kmarks S k).map wtY = S.map wtY := by
    induction S generalizing k with
    | nil => rfl
    | cons y l ih =>
      show wtY (kmk y k) :: (kmarks l (k + wtY y)).map wtY = wtY y :: l.map wtY
      rw [ih (k + wtY y)]
      have : wtY (kmk y k) = wtY y := by unfold wtY kmk; simp only; rw [imarks_len, smarks_len]
      rw [this]
  rw [this]
section
variable {lo hi R : Nat} {A : Nat → LA} {S : List Ly} {w : World}
theorem LyOwn.markM (h : LyOwn lo hi R A S w) (k : Nat) (hk : k < S.length) (m : Int) : LyOwn lo hi R A (S.set k ⟨m, S[k].bl, S[k].dt⟩) (w.setCell ⟨R, k * 3, none⟩ (.int .i64 m)) ∧ Out lo hi w (w.setCell ⟨R, k * 3, none⟩ (.int .i64 m)) := by
  obtain ⟨c0, c1, c2⟩ := h.cell k hk
  have off : ∀ (a b' : Nat), a ≠ b' → (⟨R, a, none⟩ : Addr) ≠ ⟨R, b', none⟩ := fun a b' hab e => hab (congrArg Addr.off e)
  have hsz : (w.setCell ⟨R, k * 3, none⟩ (.int .i64 m)).heap.size = w.heap.size := by simp [World.setCell]
  have nb : S[k].bl = [] ∨ (lo ≤ (A k).f ∧ (A k).f < hi ∧ (A k).f ≠ R ∧ (A k).p = some ⟨(A k).f, 0, none⟩ ∧ IRow (A k).f S[k].bl (w.setCell ⟨R, k * 3, none⟩ (.int .i64 m)) ∧ (hi ≤ (A k).f ∨ ((A k).f = (A k).f ∧ S[k].bl ≠ []))) := by
    by_cases e : S[k].bl = []
    · exact Or.inl e
    · obtain ⟨a1, a2, a3, a4, a5⟩ := h.fB k hk e
      exact Or.inr ⟨a1, a2, a3, a4, a5.same (by rw [hsz]; exact Nat.le_refl _) (keepB _ _ _ _ _ a3), Or.inr ⟨rfl, e⟩⟩
  have nd : S[k].dt = [] ∨ (lo ≤ (A k).g ∧ (A k).g < hi ∧ (A k).g ≠ R ∧ (A k).q = some ⟨(A k).g, 0, none⟩ ∧ SRow (A k).g S[k].dt (w.setCell ⟨R, k * 3, none⟩ (.int .i64 m)) ∧ (hi ≤ (A k).g ∨ ((A k).g = (A k).g ∧ S[k].dt ≠ []))) := by
    by_cases e : S[k].dt = []
    · exact Or.inl e
    · obtain ⟨a1, a2, a3, a4, a5⟩ := h.fD k hk e
      exact Or.inr ⟨a1, a2, a3, a4, a5.same (by rw [hsz]; exact Nat.le_refl _) (keepB _ _ _ _ _ a3), Or.inr ⟨rfl, e⟩⟩
  refine ⟨?_, Out.ofBut ((But.refl R w).setCell _ _) h.r0 h.r1⟩
  have := h.put k hk ⟨m, S[k].bl, S[k].dt⟩ (A k) hi (w.setCell ⟨R, k * 3, none⟩ (.int .i64 m)) (Nat.le_refl _) (by rw [hsz]; exact h.r2) (by rw [hsz]; exact Nat.le_refl _) (World.cell?_setCell_same _ _ _ c0)
    (by rw [World.cell?_setCell_other _ _ _ _ (off _ _ (by omega))]; exact c1) (by rw [World.cell?_setCell_other _ _ _ _ (off _ _ (by omega))]; exact c2)
    (fun o ho => World.cell?_setCell_other _ _ _ _ (off _ _ (by omega))) (fun o => by rw [World.frozen?_setCell]) (fun X _ _ hX _ _ => keepB _ _ _ _ _ hX) nb nd (fun e1 e2 => h.bd k k hk hk e1 e2)
  rw [updA_id] at this
  exact this
/-- the k-th layer's blocks are marked -/
theorem LyOwn.markB (h : LyOwn lo hi R A S w) (k : Nat) (hk : k < S.length) (l : List Int) (hl : l.length = S[k].bl.length) {w' : World} (hw : (S[k].bl = [] ∧ w' = w) ∨ (S[k].bl ≠ [] ∧ IRow (A k).f l w' ∧ But (A k).f w w')) :
    LyOwn lo hi R A (S.set k ⟨S[k].mark, l, S[k].dt⟩) w' ∧ Out lo hi w w' := by
  rcases hw with ⟨e, rfl⟩ | ⟨e, hr, hb⟩
  · have hl0 : l = [] := List.length_eq_zero_iff.1 (by rw [hl, e]; rfl)
    have : S.set k ⟨S[k].mark, l, S[k].dt⟩ = S := by
      rw [hl0, ← e]
      exact List.set_getElem_self hk
    rw [this]
    exact ⟨h, Out.refl _ _ _⟩
  · obtain ⟨a1, a2, a3, a4, a5⟩ := h.fB k hk e
    obtain ⟨c0, c1, c2⟩ := h.cell k hk
    have hR : R < w.heap.size := Nat.lt_of_lt_of_le h.r1 h.r2
    have kc : ∀ o, w'.cell? ⟨R, o, none⟩ = w.cell? ⟨R, o, none⟩ := fun o => hb.cell R o hR (fun g => a3 g.symm)
    have kf : ∀ o, w'.frozen? ⟨R, o, none⟩ = w.frozen? ⟨R, o, none⟩ := fun o => hb.frozen R o hR (fun g => a3 g.symm)
    have nd : S[k].dt = [] ∨ (lo ≤ (A k).g ∧ (A k).g < hi ∧ (A k).g ≠ R ∧ (A k).q = some ⟨(A k).g, 0, none⟩ ∧ SRow (A k).g S[k].dt w' ∧ (hi ≤ (A k).g ∨ ((A k).g = (A k).g ∧ S[k].dt ≠ []))) := by
      by_cases e2 : S[k].dt = []
      · exact Or.inl e2
      · obtain ⟨b1, b2, b3, b4, b5⟩ := h.fD k hk e2
        exact Or.inr ⟨b1, b2, b3, b4, b5.same hb.size (hb.block _ b5.lt (fun g => h.bd k k hk hk e e2 g.symm)), Or.inr ⟨rfl, e2⟩⟩
    refine ⟨?_, Out.ofBut hb a1 a2⟩
    have := h.put k hk ⟨S[k].mark, l, S[k].dt⟩ (A k) hi w' (Nat.le_refl _) (Nat.le_trans h.r2 hb.size) hb.size (by rw [kc]; exact c0) (by rw [kc]; show _ = some (Value.slice _ l.length _); rw [hl]; exact c1) (by rw [kc]; exact c2)
      (fun o _ => kc o) kf (fun X _ hX2 _ hX3 _ => hb.block X (Nat.lt_of_lt_of_le hX2 h.r2) (hX3 e)) (Or.inr ⟨a1, a2, a3, a4, hr, Or.inr ⟨rfl, e⟩⟩) nd (fun _ e2 => h.bd k k hk hk e e2)
    rw [updA_id] at this
    exact this
theorem LyOwn.markD (h : LyOwn lo hi R A S w) (k : Nat) (hk : k < S.length) (l : List ByteArray) (hl : l.length = S[k].dt.length) {w' : World} (hw : (S[k].dt = [] ∧ w' = w) ∨ (S[k].dt ≠ [] ∧ SRow (A k).g l w' ∧ But (A k).g w w')) :
    LyOwn lo hi R A (S.set k ⟨S[k].mark, S[k].bl, l⟩) w' ∧ Out lo hi w w' := by
  rcases hw with ⟨e, rfl⟩ | ⟨e, hr, hb⟩
  · have hl0 : l = [] := List.length_eq_zero_iff.1 (by rw [hl, e]; rfl)
    have : S.set k ⟨S[k].mark, S[k].bl, l⟩ = S := by
      rw [hl0, ← e]
      exact List.set_getElem_self hk
    rw [this]
    exact ⟨h, Out.refl _ _ _⟩
  · obtain ⟨a1, a2, a3, a4, a5⟩ := h.fD k hk e
    obtain ⟨c0, c1, c2⟩ := h.cell k hk
    have hR : R < w.heap.size := Nat.lt_of_lt_of_le h.r1 h.r2
    have kc : ∀ o, w'.cell? ⟨R, o, none⟩ = w.cell? ⟨R, o, none⟩ := fun o => hb.cell R o hR (fun g => a3 g.symm)
    have kf : ∀ o, w'.frozen? ⟨R, o, none⟩ = w.frozen? ⟨R, o, none⟩ := fun o => hb.frozen R o hR (fun g => a3 g.symm)
    have nb : S[k].bl = [] ∨ (lo ≤ (A k).f ∧ (A k).f < hi ∧ (A k).f ≠ R ∧ (A k).p = some ⟨(A k).f, 0, none⟩ ∧ IRow (A k).f S[k].bl w' ∧ (hi ≤ (A k).f ∨ ((A k).f = (A k).f ∧ S[k].bl ≠ []))) := by
      by_cases e2 : S[k].bl = []
      · exact Or.inl e2
      · obtain ⟨b1, b2, b3, b4, b5⟩ := h.fB k hk e2
        exact Or.inr ⟨b1, b2, b3, b4, b5.same hb.size (hb.block _ b5.lt (fun g => h.bd k k hk hk e2 e g)), Or.inr ⟨rfl, e2⟩⟩
    refine ⟨?_, Out.ofBut hb a1 a2⟩
    have := h.put k hk ⟨S[k].mark, S[k].bl, l⟩ (A k) hi w' (Nat.le_refl _) (Nat.le_trans h.r2 hb.size) hb.size (by rw [kc]; exact c0) (by rw [kc]; exact c1) (by rw [kc]; show _ = some (Value.slice _ l.length _); rw [hl]; exact c2)
      (fun o _ => kc o) kf (fun X _ hX2 _ _ hX3 => hb.block X (Nat.lt_of_lt_of_le hX2 h.r2) (hX3 e)) nb (Or.inr ⟨a1, a2, a3, a4, hr, Or.inr ⟨rfl, e⟩⟩) (fun e2 _ => h.bd k k hk hk e2 e)
    rw [updA_id] at this
    exact this
end
theorem Out.trans2 {lo hi : Nat} {w w1 w2 : World} (h : Out lo hi w w1) (g : Out lo hi w1 w2) : Out lo hi w w2 := ⟨g.os.trans h.os, g.tape.trans h.tape, g.output.trans h.output, Nat.le_trans h.size g.size, fun k hk hb => (g.block k (Nat.lt_of_lt_of_le hk h.size) hb).trans (h.block k hk hb)⟩
theorem markB_any (lo hi R : Nat) (A : Nat → LA) (S : List Ly) (k k0 : Nat) (w : World) (hk : k < S.length) (hn : S[k].bl.length ≤ 1048576) (k1 : 1 ≤ k0) (k2 : k0 ≤ 4611686018427387904) (h : LyOwn lo hi R A S w) :
    Calls Try.prog 18 #[.slice (A k).p S[k].bl.length (A k).c, .int .i64 k0] w fun e w' => e = .returned (.int .i64 (k0 + S[k].bl.length : Nat)) ∧ LyOwn lo hi R A (S.set k ⟨S[k].mark, imarks S[k].bl.length k0, S[k].dt⟩) w' ∧ Out lo hi w w' := by
  by_cases e : S[k].bl = []
  · have hm := markIntS_none (A k).p (A k).c k0 w
    have hz : S[k].bl.length = 0 := by rw [e]; rfl
    rw [hz]
    exact hm.mono fun _ _ ⟨he, hw⟩ => ⟨he, h.markB k hk _ (by rw [imarks_len, hz]) (Or.inl ⟨e, hw⟩)⟩
  · obtain ⟨a1, a2, a3, a4, a5⟩ := h.fB k hk e
    rw [a4]
    exact (markIntS_row (A k).f (A k).c k0 S[k].bl w hn k1 k2 a5).mono fun _ _ ⟨he, hr, hb⟩ => ⟨he, h.markB k hk _ (imarks_len _ _) (Or.inr ⟨e, hr, hb⟩)⟩
theorem markD_any (lo hi R : Nat) (A : Nat → LA) (S : List Ly) (k k0 : Nat) (w : World) (hk : k < S.length) (hn : S[k].dt.length ≤ 1048576) (k1 : 1 ≤ k0) (k2 : k0 ≤ 10000000) (h : LyOwn lo hi R A S w) :
    Calls Try.prog 26 #[.slice (A k).q S[k].dt.length (A k).d, .int .i64 k0] w fun e w' => e = .returned (.int .i64 (k0 + S[k].dt.length : Nat)) ∧ LyOwn lo hi R A (S.set k ⟨S[k].mark, S[k].bl, smarks S[k].dt.length k0⟩) w' ∧ Out lo hi w w' := by
  by_cases e : S[k].dt = []
  · have hm := markStringS_none (A k).q (A k).d k0 w
    have hz : S[k].dt.length = 0 := by rw [e]; rfl
    rw [hz]
    exact hm.mono fun _ _ ⟨he, hw⟩ => ⟨he, h.markD k hk _ (by rw [smarks_len, hz]) (Or.inl ⟨e, hw⟩)⟩
  · obtain ⟨a1, a2, a3, a4, a5⟩ := h.fD k hk e
    rw [a4]
    exact (markStringS_row (A k).g (A k).d k0 S[k].dt w hn k1 k2 a5).mono fun _ _ ⟨he, hr, hb⟩ => ⟨he, h.markD k hk _ (smarks_len _ _) (Or.inr ⟨e, hr, hb⟩)⟩
end Go.Proofs.Ytiionfmpbifbcaa
