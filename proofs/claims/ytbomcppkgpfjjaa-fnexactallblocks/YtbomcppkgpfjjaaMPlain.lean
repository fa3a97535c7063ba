/- Stretches and maps: plain numbers and lists. -/
namespace G00541
structure Sx where
  at_ : Int
  long : Int
  place : Int
deriving DecidableEq
def goodX (x : Sx) : Bool := decide (1 ≤ x.long ∧ x.long ≤ 16 ∧ 0 ≤ x.at_ ∧ x.at_ ≤ 16 - x.long ∧ 0 ≤ x.place ∧ x.place ≤ 10001 - x.long)
theorem goodX_iff (x : Sx) : goodX x = true ↔ (1 ≤ x.long ∧ x.long ≤ 16 ∧ 0 ≤ x.at_ ∧ x.at_ ≤ 16 - x.long ∧ 0 ≤ x.place ∧ x.place ≤ 10001 - x.long) := by
  unfold goodX; rw [decide_eq_true_iff]
/-- x may lie right behind y -/
def apart (y x : Sx) : Bool := decide (y.at_ + y.long ≤ x.at_ ∧ ¬ (x.at_ = y.at_ + y.long ∧ x.place = y.place + y.long))
theorem apart_iff (y x : Sx) : apart y x = true ↔ (y.at_ + y.long ≤ x.at_ ∧ ¬ (x.at_ = y.at_ + y.long ∧ x.place = y.place + y.long)) := by
  unfold apart; rw [decide_eq_true_iff]
def behind : Option Sx → Sx → Bool
  | none, _ => true
  | some y, x => apart y x
def chain : Option Sx → List Sx → Bool
  | _, [] => true
  | o, x :: l => goodX x && behind o x && chain (some x) l
def goodM (m : List Sx) : Bool := chain none m
/-- the last one of m, o where there is none -/
def lastO : Option Sx → List Sx → Option Sx
  | o, [] => o
  | _, x :: l => lastO (some x) l
theorem lastO_snoc : ∀ (o : Option Sx) (l : List Sx) (x : Sx), lastO o (l ++ [x]) = some x
  | _, [], _ => rfl
  | _, y :: l, x => lastO_snoc (some y) l x
theorem chain_snoc : ∀ (o : Option Sx) (l : List Sx) (x : Sx), chain o (l ++ [x]) = (chain o l && goodX x && behind (lastO o l) x)
  | o, [], x => by simp [chain, lastO]
  | o, y :: l, x => by
    show (goodX y && behind o y && chain (some y) (l ++ [x])) = (goodX y && behind o y && chain (some y) l && goodX x && behind (lastO (some y) l) x)
    rw [chain_snoc (some y) l x]
    simp only [Bool.and_assoc]
theorem goodM_snoc (l : List Sx) (x : Sx) : goodM (l ++ [x]) = (goodM l && goodX x && behind (lastO none l) x) := chain_snoc none l x
theorem snoc_of : ∀ (l : List Sx), l ≠ [] → ∃ L y, l = L ++ [y]
  | l, h => ⟨l.dropLast, l.getLast h, (List.dropLast_concat_getLast h).symm⟩
/-- the place of block b -/
def pl (m : List Sx) (b : Int) : Int := m.foldl (fun acc x => if x.at_ ≤ b ∧ b < x.at_ + x.long then x.place + (b - x.at_) else acc) (-1)
def plA (acc : Int) (m : List Sx) (b : Int) : Int := m.foldl (fun acc x => if x.at_ ≤ b ∧ b < x.at_ + x.long then x.place + (b - x.at_) else acc) acc
theorem pl_A (m : List Sx) (b : Int) : pl m b = plA (-1) m b := rfl
theorem pl_nil (b : Int) : pl [] b = -1 := rfl
theorem pl_snoc (m : List Sx) (x : Sx) (b : Int) : pl (m ++ [x]) b = if x.at_ ≤ b ∧ b < x.at_ + x.long then x.place + (b - x.at_) else pl m b := by
  unfold pl; rw [List.foldl_append]; rfl
theorem plA_cons (acc : Int) (x : Sx) (m : List Sx) (b : Int) : plA acc (x :: m) b = plA (if x.at_ ≤ b ∧ b < x.at_ + x.long then x.place + (b - x.at_) else acc) m b := rfl
theorem plA_none (acc : Int) : ∀ (m : List Sx) (b : Int), (∀ x ∈ m, b < x.at_) → plA acc m b = acc
  | [], _, _ => rfl
  | x :: m, b, h => by
    rw [plA_cons, if_neg (by have := h x List.mem_cons_self; omega)]
    exact plA_none acc m b fun y hy => h y (List.mem_cons_of_mem _ hy)
theorem chain_from : ∀ (o : Option Sx) (m : List Sx) (lo : Int), chain o m = true → (∀ y, o = some y → lo ≤ y.at_ + y.long) → (o = none → lo ≤ 0) → ∀ x ∈ m, lo ≤ x.at_
  | _, [], _, _, _, _, _, hx => by cases hx
  | o, x :: m, lo, h, ho, hn, z, hz => by
    unfold chain at h
    rw [Bool.and_eq_true, Bool.and_eq_true, goodX_iff] at h
    obtain ⟨⟨hg, hb⟩, hc⟩ := h
    have hx : lo ≤ x.at_ := by
      cases o with
      | none => have := hn rfl; omega
      | some y =>
        have := ho y rfl
        have hb' : apart y x = true := hb
        rw [apart_iff] at hb'
        omega
    rcases List.mem_cons.1 hz with rfl | hz
    · exact hx
    · exact chain_from (some x) m lo hc (fun y hy => by cases hy; omega) (fun h => by cases h) z hz
theorem chain_inj : ∀ (m n : List Sx) (o p : Option Sx) (lo : Int), chain o m = true → chain p n = true → (∀ x ∈ m, lo ≤ x.at_) → (∀ x ∈ n, lo ≤ x.at_) → (∀ b, lo ≤ b → plA (-1) m b = plA (-1) n b) → m = n
  | [], [], _, _, _, _, _, _, _, _ => rfl
  | [], y :: n, o, p, lo, _, hn, _, hl, h => by
    unfold chain at hn
    rw [Bool.and_eq_true, Bool.and_eq_true, goodX_iff] at hn
    have hy := hl y List.mem_cons_self
    have := h y.at_ hy
    rw [plA_cons, if_pos (by omega), plA_none _ n _ (fun z hz => by have := chain_from (some y) n (y.at_ + y.long) hn.2 (fun z hz => by cases hz; omega) (fun h => by cases h) z hz; omega)] at this
    have e : plA (-1) [] y.at_ = -1 := rfl
    omega
  | x :: m, [], o, p, lo, hm, _, hl, _, h => by
    unfold chain at hm
    rw [Bool.and_eq_true, Bool.and_eq_true, goodX_iff] at hm
    have hx := hl x List.mem_cons_self
    have := h x.at_ hx
    rw [plA_cons, if_pos (by omega), plA_none _ m _ (fun z hz => by have := chain_from (some x) m (x.at_ + x.long) hm.2 (fun z hz => by cases hz; omega) (fun h => by cases h) z hz; omega)] at this
    have e : plA (-1) [] x.at_ = -1 := rfl
    omega
  | x :: m, y :: n, o, p, lo, hm, hn, hl, hk, h => by
    unfold chain at hm hn
    rw [Bool.and_eq_true, Bool.and_eq_true, goodX_iff] at hm hn
    obtain ⟨⟨gx, _⟩, cm⟩ := hm
    obtain ⟨⟨gy, _⟩, cn⟩ := hn
    have fm := chain_from (some x) m (x.at_ + x.long) cm (fun z hz => by cases hz; omega) (fun h => by cases h)
    have fn := chain_from (some y) n (y.at_ + y.long) cn (fun z hz => by cases hz; omega) (fun h => by cases h)
    have hx := hl x List.mem_cons_self
    have hy := hk y List.mem_cons_self
    have e1 := h x.at_ hx
    have e2 := h y.at_ hy
    rw [plA_cons, if_pos (by omega), plA_none _ m _ (fun z hz => by have := fm z hz; omega)] at e1
    rw [plA_cons _ y, if_pos (by omega), plA_none _ n _ (fun z hz => by have := fn z hz; omega)] at e2
    have hat : x.at_ = y.at_ := by
      rcases Int.lt_trichotomy x.at_ y.at_ with hlt | heq | hlt
      · rw [plA_cons, if_neg (by omega), plA_none _ n _ (fun z hz => by have := fn z hz; omega)] at e1
        omega
      · exact heq
      · rw [plA_cons, if_neg (by omega), plA_none _ m _ (fun z hz => by have := fm z hz; omega)] at e2
        omega
    have hpl : x.place = y.place := by
      rw [plA_cons, if_pos (by omega), plA_none _ n _ (fun z hz => by have := fn z hz; omega)] at e1
      omega
    have key : ∀ (x y : Sx) (m : List Sx), (1 ≤ x.long ∧ x.long ≤ 16 ∧ 0 ≤ x.at_ ∧ x.at_ ≤ 16 - x.long ∧ 0 ≤ x.place ∧ x.place ≤ 10001 - x.long) → x.at_ = y.at_ → x.place = y.place → chain (some x) m = true → plA (-1) m (x.at_ + x.long) = y.place + x.long → False := by
      intro x y m gx hat hpl cm hv
      cases m with
      | nil =>
        have e : plA (-1) [] (x.at_ + x.long) = -1 := rfl
        omega
      | cons z m =>
        unfold chain at cm
        rw [Bool.and_eq_true, Bool.and_eq_true, goodX_iff] at cm
        obtain ⟨⟨gz, hb⟩, cz⟩ := cm
        have hb' : apart x z = true := hb
        rw [apart_iff] at hb'
        have fz := chain_from (some z) m (z.at_ + z.long) cz (fun z hz => by cases hz; omega) (fun h => by cases h)
        rw [plA_cons, plA_none _ m _ (fun u hu => by have := fz u hu; omega)] at hv
        split at hv <;> omega
    have hlong : x.long = y.long := by
      rcases Int.lt_trichotomy x.long y.long with hlt | heq | hlt
      · exfalso
        have e3 := h (x.at_ + x.long) (by omega)
        rw [plA_cons, if_neg (by omega), plA_cons, if_pos (by omega), plA_none _ n _ (fun z hz => by have := fn z hz; omega)] at e3
        exact key x y m gx hat hpl cm (by omega)
      · exact heq
      · exfalso
        have e3 := h (y.at_ + y.long) (by omega)
        rw [plA_cons, if_pos (by omega), plA_cons, if_neg (by omega), plA_none _ m _ (fun z hz => by have := fm z hz; omega)] at e3
        exact key y x n gy hat.symm hpl.symm cn (by omega)
    obtain rfl : x = y := by cases x; cases y; simp_all
    rw [chain_inj m n (some x) (some x) (x.at_ + x.long) cm cn fm fn (fun b hb => by
      have := h b (by omega)
      rw [plA_cons, if_neg (by omega), plA_cons, if_neg (by omega)] at this
      exact this)]
/-- the next block's place goes on from the last stretch, or begins one -/
def stepM (m : List Sx) (k p : Int) : List Sx :=
  if p < 0 then m else match lastO none m with
    | none => m ++ [⟨k, 1, p⟩]
    | some y => if y.at_ + y.long = k ∧ y.place + y.long = p then m.dropLast ++ [⟨y.at_, y.long + 1, y.place⟩] else m ++ [⟨k, 1, p⟩]
def mapF (f : Nat → Int) : Nat → List Sx
  | 0 => []
  | k + 1 => stepM (mapF f k) k (f k)
theorem stepM_none (m : List Sx) (k p : Int) (h : p < 0) : stepM m k p = m := by unfold stepM; rw [if_pos h]
theorem stepM_nil (k p : Int) (h : 0 ≤ p) : stepM [] k p = [⟨k, 1, p⟩] := by unfold stepM; rw [if_neg (by omega)]; rfl
theorem stepM_snoc (L : List Sx) (y : Sx) (k p : Int) (h : 0 ≤ p) : stepM (L ++ [y]) k p = if y.at_ + y.long = k ∧ y.place + y.long = p then L ++ [⟨y.at_, y.long + 1, y.place⟩] else L ++ [y] ++ [⟨k, 1, p⟩] := by
  unfold stepM; rw [if_neg (by omega), lastO_snoc]
  simp
/-- what mapF keeps -/
structure Kept (f : Nat → Int) (k : Nat) (m : List Sx) : Prop where
  good : goodM m = true
  ends : ∀ x ∈ m, x.at_ + x.long ≤ k
  told : ∀ b : Nat, b < k → pl m b = f b
  many : m.length ≤ k
theorem pl_beyond (b : Int) : ∀ (m : List Sx), (∀ x ∈ m, x.at_ + x.long ≤ b) → pl m b = -1 := by
  intro m h
  have : ∀ (acc : Int) (m : List Sx), (∀ x ∈ m, x.at_ + x.long ≤ b) → plA acc m b = acc := by
    intro acc m
    induction m generalizing acc with
    | nil => intro _; rfl
    | cons x m ih =>
      intro h
      rw [plA_cons, if_neg (by have := h x List.mem_cons_self; omega)]
      exact ih acc fun y hy => h y (List.mem_cons_of_mem _ hy)
  exact this (-1) m h
theorem kept (f : Nat → Int) (hf : ∀ b, b < 16 → -1 ≤ f b ∧ f b ≤ 10000) : ∀ k, k ≤ 16 → Kept f k (mapF f k)
  | 0, _ => ⟨rfl, (fun _ h => by cases h), (fun _ h => absurd h (Nat.not_lt_zero _)), Nat.le_refl _⟩
  | k + 1, hk => by
    have ih := kept f hf k (by omega)
    obtain ⟨b0, b1⟩ := hf k (by omega)
    show Kept f (k + 1) (stepM (mapF f k) k (f k))
    generalize mapF f k = m at ih
    by_cases hp : f k < 0
    · rw [stepM_none _ _ _ hp]
      refine ⟨ih.good, fun x hx => by have := ih.ends x hx; omega, fun b hb => ?_, by have := ih.many; omega⟩
      by_cases e : b = k
      · subst e
        rw [pl_beyond _ _ ih.ends]; omega
      · exact ih.told b (by omega)
    · have hnew : behind (lastO none m) ⟨k, 1, f k⟩ = true → Kept f (k + 1) (m ++ [⟨k, 1, f k⟩]) := fun hb => by
        refine ⟨?_, ?_, ?_, ?_⟩
        · rw [goodM_snoc, ih.good, hb, (goodX_iff _).2 (by simp only; omega)]; rfl
        · intro x hx
          rcases List.mem_append.1 hx with hx | hx
          · have := ih.ends x hx; omega
          · obtain rfl : x = ⟨k, 1, f k⟩ := by simpa using hx
            simp only; omega
        · intro b hb
          rw [pl_snoc]
          by_cases e : b = k
          · subst e
            rw [if_pos (by simp only; omega)]; simp only; omega
          · rw [if_neg (by simp only; omega)]; exact ih.told b (by omega)
        · have := ih.many; simp; omega
      by_cases hm : m = []
      · subst hm
        rw [stepM_nil _ _ (by omega)]
        exact hnew rfl
      · obtain ⟨L, y, rfl⟩ := snoc_of m hm
        rw [stepM_snoc _ _ _ _ (by omega)]
        have hg := ih.good
        rw [goodM_snoc, Bool.and_eq_true, Bool.and_eq_true, goodX_iff] at hg
        obtain ⟨⟨hL, gy⟩, hby⟩ := hg
        have hye := ih.ends y (by simp)
        split
        · rename_i hgo
          refine ⟨?_, ?_, ?_, ?_⟩
          · rw [goodM_snoc, hL, (goodX_iff _).2 (by simp only; omega), Bool.true_and, Bool.true_and]
            cases hl : lastO none L with
            | none => rfl
            | some z =>
              rw [hl] at hby
              have h1 : apart z y = true := hby
              rw [apart_iff] at h1
              exact (apart_iff _ _).2 h1
          · intro x hx
            rcases List.mem_append.1 hx with hx | hx
            · have := ih.ends x (List.mem_append_left _ hx); omega
            · obtain rfl : x = ⟨y.at_, y.long + 1, y.place⟩ := by simpa using hx
              simp only; omega
          · intro b hb
            rw [pl_snoc]
            by_cases e : b = k
            · subst e
              rw [if_pos (by simp only; omega)]; simp only; omega
            · have := ih.told b (by omega)
              rw [pl_snoc] at this
              simp only
              split at this
              · rw [if_pos (by omega)]; exact this
              · rw [if_neg (by omega)]; exact this
          · have := ih.many; simp at this ⊢; omega
        · rename_i hgo
          refine hnew ?_
          rw [lastO_snoc]
          exact (apart_iff _ _).2 ⟨by simp only; omega, by simp only; omega⟩
/-- the places of all blocks, each in 0 .. 10000 or -1 -/
theorem pl_range (m : List Sx) (h : ∀ x ∈ m, goodX x = true) (b : Int) : -1 ≤ pl m b ∧ pl m b ≤ 10000 := by
  have : ∀ (m : List Sx) (acc : Int), -1 ≤ acc → acc ≤ 10000 → (∀ x ∈ m, goodX x = true) → -1 ≤ plA acc m b ∧ plA acc m b ≤ 10000 := by
    intro m
    induction m with
    | nil => intro acc h0 h1 _; exact ⟨h0, h1⟩
    | cons x m ih =>
      intro acc h0 h1 h
      have gx := (goodX_iff x).1 (h x List.mem_cons_self)
      rw [plA_cons]
      split
      · exact ih _ (by omega) (by omega) fun y hy => h y (List.mem_cons_of_mem _ hy)
      · exact ih _ h0 h1 fun y hy => h y (List.mem_cons_of_mem _ hy)
  exact this m (-1) (by omega) (by omega) h
theorem chain_all : ∀ (o : Option Sx) (m : List Sx), chain o m = true → ∀ x ∈ m, goodX x = true
  | _, [], _, _, hx => by cases hx
  | o, y :: m, h, x, hx => by
    unfold chain at h
    rw [Bool.and_eq_true, Bool.and_eq_true] at h
    rcases List.mem_cons.1 hx with rfl | hx
    · exact h.1.1
    · exact chain_all (some y) m h.2 x hx
theorem pl_out (m : List Sx) (h : ∀ x ∈ m, goodX x = true) (b : Int) (hb : 16 ≤ b) : pl m b = -1 :=
  pl_beyond b m fun x hx => by have := (goodX_iff x).1 (h x hx); omega
def plN (m : List Sx) (b : Nat) : Int := pl m b
/-- a good map is the map of its own places -/
theorem map_back (m : List Sx) (h : goodM m = true) : mapF (plN m) 16 = m := by
  have ha := chain_all none m h
  have hk := kept (plN m) (fun b _ => pl_range m ha b) 16 (Nat.le_refl _)
  refine chain_inj _ m none none 0 hk.good h (chain_from none _ 0 hk.good (fun _ h => by cases h) (fun _ => Int.le_refl _)) (chain_from none m 0 h (fun _ h => by cases h) (fun _ => Int.le_refl _)) fun b hb => ?_
  show pl _ b = pl m b
  by_cases hb6 : b < 16
  · have := hk.told b.toNat (by omega)
    have e : ((b.toNat : Nat) : Int) = b := by omega
    rw [e] at this
    rw [this]
    show pl m ((b.toNat : Nat) : Int) = _
    rw [e]
  · rw [pl_beyond b _ (fun x hx => by have := hk.ends x hx; omega), pl_out m ha b (by omega)]
/-- good just where all stretches are, there are at most 16, and it is the map of its places -/
theorem good_iff (m : List Sx) : goodM m = true ↔ (m.length ≤ 16 ∧ (∀ x ∈ m, goodX x = true) ∧ mapF (plN m) 16 = m) := by
  constructor
  · intro h
    have ha := chain_all none m h
    have hb := map_back m h
    refine ⟨?_, ha, hb⟩
    have := (kept (plN m) (fun b _ => pl_range m ha b) 16 (Nat.le_refl _)).many
    rw [hb] at this
    exact this
  · rintro ⟨_, ha, hb⟩
    have := (kept (plN m) (fun b _ => pl_range m ha b) 16 (Nat.le_refl _)).good
    rw [hb] at this
    exact this
/-- the map of places has those places -/
theorem places_map (f : Nat → Int) (hf : ∀ b, b < 16 → -1 ≤ f b ∧ f b ≤ 10000) (b : Nat) (hb : b < 16) : plN (mapF f 16) b = f b :=
  (kept f hf 16 (Nat.le_refl _)).told b hb
theorem mapF_good (f : Nat → Int) (hf : ∀ b, b < 16 → -1 ≤ f b ∧ f b ≤ 10000) : goodM (mapF f 16) = true := (kept f hf 16 (Nat.le_refl _)).good
theorem mapF_len (f : Nat → Int) (hf : ∀ b, b < 16 → -1 ≤ f b ∧ f b ≤ 10000) : (mapF f 16).length ≤ 16 := (kept f hf 16 (Nat.le_refl _)).many
theorem mapF_ext (f g : Nat → Int) : ∀ k, (∀ b, b < k → f b = g b) → mapF f k = mapF g k
  | 0, _ => rfl
  | k + 1, h => by
    show stepM (mapF f k) k (f k) = stepM (mapF g k) k (g k)
    rw [mapF_ext f g k (fun b hb => h b (by omega)), h k (by omega)]
end G00541
