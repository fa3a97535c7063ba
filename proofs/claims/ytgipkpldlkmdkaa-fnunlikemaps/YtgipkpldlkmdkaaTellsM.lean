/- What the model and the program tell alike, for every world; what a law over maps keeps while it goes. -/
import Derived.Test.YtgipkpldlkmdkaaDrawU4
import Derived.Test.YtgipkpldlkmdkaaSameX
import Derived.Test.YtgipkpldlkmdkaaUnlS
import Derived.Test.YtgipkpldlkmdkaaUnlI
import Derived.Test.YtgipkpldlkmdkaaPlO
import Derived.Test.YtgipkpldlkmdkaaShfI
namespace Go.Proofs.Ytgipkpldlkmdkaa
set_option maxRecDepth 100000
open Go.ChangeShapes Go.WideShapes Go.ChangeAt Go.RowKit G00541
/-- the law's maps and numbers, and the bytes that it draws of -/
structure Sm (w0 : World) (X : List (Option Addr × List Sx)) (I : List (Option Addr × List Int)) (l2 c2 : Nat) (a2 : Option Addr) (w : World) : Prop where
  below : Below w0.heap.size w0 w
  code : Code w0.heap.size l2 c2 a2 w
  xs : ∀ p ∈ X, Xs w.heap.size p.1 p.2 w
  is : ∀ p ∈ I, Is w.heap.size p.1 p.2 w
section
variable {w0 w w' : World} {X : List (Option Addr × List Sx)} {I : List (Option Addr × List Int)} {l2 c2 : Nat} {a2 : Option Addr}
theorem Sm.on (h : Sm w0 X I l2 c2 a2 w) (g : Below w.heap.size w w') : Sm w0 X I l2 c2 a2 w' :=
  ⟨h.below.trans (g.mono h.below.size), h.code.below (g.mono h.below.size), fun p hp => (h.xs p hp).go g, fun p hp => ((h.is p hp).below g).mono g.size⟩
theorem Sm.addX (h : Sm w0 X I l2 c2 a2 w) {b : Option Addr} {l : List Sx} (hx : Xs w.heap.size b l w) : Sm w0 ((b, l) :: X) I l2 c2 a2 w :=
  ⟨h.below, h.code, fun p hp => by rcases List.mem_cons.1 hp with rfl | hp; exact hx; exact h.xs p hp, h.is⟩
theorem Sm.addI (h : Sm w0 X I l2 c2 a2 w) {b : Option Addr} {l : List Int} (hx : Is w.heap.size b l w) : Sm w0 X ((b, l) :: I) l2 c2 a2 w :=
  ⟨h.below, h.code, h.xs, fun p hp => by rcases List.mem_cons.1 hp with rfl | hp; exact hx; exact h.is p hp⟩
theorem Sm.x (h : Sm w0 X I l2 c2 a2 w) (b : Option Addr) (l : List Sx) (hp : (b, l) ∈ X) : Xs w.heap.size b l w := h.xs _ hp
theorem Sm.i (h : Sm w0 X I l2 c2 a2 w) (b : Option Addr) (l : List Int) (hp : (b, l) ∈ I) : Is w.heap.size b l w := h.is _ hp
theorem Sm.draw (h : Sm w0 X I l2 c2 a2 w) : Code w.heap.size l2 c2 a2 w := h.code.mono h.below.size
theorem Sm.bare (h : Sm w0 X I l2 c2 a2 w) : Sm w0 [] [] l2 c2 a2 w := ⟨h.below, h.code, (fun _ h => by cases h), (fun _ h => by cases h)⟩
theorem Sm.drew (h : Sm w0 X I l2 c2 a2 w) : Sm w0 X I l2 c2 a2 w.drew := h.on (Below.refl _ _).drew
end
/-- a map is told -/
def ToldX (V : List Sx) (ok : Bool) (v : World) (e : Ending) (w' : World) : Prop := ∃ b c, e = .returned (.tuple #[.slice b V.length c, .bool ok]) ∧ Xs w'.heap.size b V w' ∧ Below v.heap.size v w'
theorem MapOut.told {V : List Sx} {ok : Bool} {v w' : World} {e : Ending} (h : MapOut V ok v e w') : ToldX V ok v e w' := by
  obtain ⟨b, c, he, ho, hb⟩ := h
  exact ⟨b, c, he, ho.xs, hb⟩
/-- numbers are told -/
def ToldI (V : List Int) (ok : Bool) (v : World) (e : Ending) (w' : World) : Prop := ∃ b c, e = .returned (.tuple #[.slice b V.length c, .bool ok]) ∧ Is w'.heap.size b V w' ∧ Below v.heap.size v w'
theorem IntOut.told {V : List Int} {ok : Bool} {v w' : World} {e : Ending} (h : IntOut V ok v e w') : ToldI V ok v e w' := by
  obtain ⟨b, c, he, ho, hb⟩ := h
  exact ⟨b, c, he, ho.is, hb⟩
theorem mapOf_tells (l : List Int) (hn : l.length ≤ 1048576) : ∃ (V : List Sx) (ok : Bool), V.length ≤ 16 ∧ (ok = true → l.length = 16 ∧ goodM V = true ∧ l = tab (plN V)) ∧
    (∀ q d v, Is v.heap.size q l v → Calls Try.prog 7 #[.slice q l.length d] v fun e w' => ToldX V ok v e w') ∧ (∀ q d v, Is v.heap.size q l v → Calls Try.prog 6 #[.slice q l.length d] v fun e w' => ToldX V ok v e w') := by
  by_cases h6 : l.length = 16
  · cases ha : allIn l (-1) 10000
    · refine ⟨[], false, by decide, (fun h => by cases h), fun q d v hv => (smap_no q d l v hn hv (fun h => by rw [ha] at h; cases h.2)).mono fun _ _ h => h.told, fun q d v hv => ?_⟩
      refine (imap_any q d l v hv h6).mono ?_
      rintro e w' (⟨h, _⟩ | ⟨_, h⟩)
      · rw [ha] at h; cases h
      · exact h.told
    · have hr := fOf_range l h6 ha
      refine ⟨_, true, mapF_len _ hr, (fun _ => ⟨h6, mapF_good _ hr, ?_⟩), fun q d v hv => (smap_yes q d l v hv h6 ha).mono fun _ _ h => h.told, fun q d v hv => ?_⟩
      · conv => lhs; rw [fOf_tab l h6]
        exact tab_ext _ _ fun b hb => (places_map (fOf l) hr b hb).symm
      · refine (imap_any q d l v hv h6).mono ?_
        rintro e w' (⟨_, h⟩ | ⟨h, _⟩)
        · exact h.told
        · rw [ha] at h; cases h
  · exact ⟨[], false, by decide, (fun h => by cases h), fun q d v hv => (smap_no q d l v hn hv (fun h => h6 h.1)).mono fun _ _ h => h.told, fun q d v _ => (imap_short q d l v h6).mono fun _ _ h => h.told⟩
theorem put_tells (l : List Sx) (p n c : Int) (hn : l.length ≤ 1048576) (hb : Bnd l) (hx : BndX ⟨p, n, c⟩) : ∃ (V : List Sx) (ok : Bool), V.length ≤ 16 ∧ Bnd V ∧
    (ok = true → goodM l = true ∧ goodX ⟨p, n, c⟩ = true ∧ goodM V = true ∧ ∀ b, b < 16 → plN V b = putF (plN l) ⟨p, n, c⟩ n.toNat b) ∧
    (∀ q d v, Xs v.heap.size q l v → Calls Try.prog 15 #[.slice q l.length d, .agg #[.int .i64 p, .int .i64 n, .int .i64 c]] v fun e w' => ToldX V ok v e w') ∧
    (∀ q d v, Xs v.heap.size q l v → Calls Try.prog 14 #[.slice q l.length d, .agg #[.int .i64 p, .int .i64 n, .int .i64 c]] v fun e w' => ToldX V ok v e w') := by
  by_cases hg : goodM l = true ∧ goodX ⟨p, n, c⟩ = true
  · have gx := (goodX_iff _).1 hg.2
    simp only at gx
    obtain ⟨p, rfl⟩ : ∃ p' : Nat, p = p' := ⟨p.toNat, by omega⟩
    obtain ⟨n, rfl⟩ : ∃ n' : Nat, n = n' := ⟨n.toNat, by omega⟩
    have hr := putF_range (plN l) ⟨p, n, c⟩ n (plN_range l hg.1) (by simp only; omega) (by simp only; omega)
    exact ⟨_, true, mapF_len _ hr, Bnd.good (mapF_good _ hr), (fun _ => ⟨hg.1, hg.2, mapF_good _ hr, fun b hb => by rw [Int.toNat_natCast]; exact places_map _ hr b hb⟩), fun q d v hv => (sput_yes q d l p n c v hn hv hg.1 hg.2).mono fun _ _ h => h.told, fun q d v hv => (iput_yes q d l p n c v hb.fit hv hg.1 hg.2).mono fun _ _ h => h.told⟩
  · obtain ⟨x1, x2, x3, x4, _, _⟩ := hx
    simp only at x1 x2 x3 x4
    exact ⟨[], false, by decide, (fun _ h => by cases h), (fun h => by cases h), fun q d v hv => (sput_no q d l p n c v hn hv hg).mono fun _ _ h => h.told, fun q d v hv => (iput_no q d l p n c v hn hb.fit ⟨by omega, by omega⟩ ⟨by omega, by omega⟩ hv hg).mono fun _ _ h => h.told⟩
theorem place_tells (l : List Sx) (b : Int) (hn : l.length ≤ 1048576) (hb : Bnd l) : ∃ (V : Int) (ok : Bool),
    (∀ q d v, Xs v.heap.size q l v → Calls Try.prog 18 #[.slice q l.length d, .int .i64 b] v fun e w' => e = .returned (.tuple #[.int .i64 V, .bool ok]) ∧ Below v.heap.size v w') ∧
    (∀ q d v, Xs v.heap.size q l v → Calls Try.prog 12 #[.slice q l.length d, .int .i64 b] v fun e w' => e = .returned (.tuple #[.int .i64 V, .bool ok]) ∧ Below v.heap.size v w') := by
  by_cases hg : goodM l = true ∧ 0 ≤ b ∧ b ≤ 15
  · obtain ⟨hgm, h0, h1⟩ := hg
    obtain ⟨b, rfl⟩ : ∃ b' : Nat, b = b' := ⟨b.toNat, by omega⟩
    by_cases hp : 0 ≤ plN l b
    · refine ⟨plN l b, true, fun q d v hv => ?_, fun q d v hv => ?_⟩
      · have := splace_in q d l b v hn hv hgm (by omega)
        rw [if_pos hp] at this
        exact this
      · have := iplace_in q d l b v hb.fit hv hgm (by omega)
        rw [if_pos hp] at this
        exact this
    · refine ⟨0, false, fun q d v hv => ?_, fun q d v hv => ?_⟩
      · have := splace_in q d l b v hn hv hgm (by omega)
        rw [if_neg hp] at this
        exact this
      · have := iplace_in q d l b v hb.fit hv hgm (by omega)
        rw [if_neg hp] at this
        exact this
  · exact ⟨0, false, fun q d v hv => splace_no q d l b v hn hv hg, fun q d v hv => iplace_no q d l b v hn hb.fit hv hg⟩
theorem places_tells (l : List Sx) (hn : l.length ≤ 1048576) (hb : Bnd l) : ∃ (V : List Int) (ok : Bool), V.length ≤ 16 ∧ (goodM l = true → ok = true ∧ V = tab (plN l)) ∧
    (∀ q d v, Xs v.heap.size q l v → Calls Try.prog 20 #[.slice q l.length d] v fun e w' => ToldI V ok v e w') ∧
    (∀ q d v, Xs v.heap.size q l v → Calls Try.prog 9 #[.slice q l.length d] v fun e w' => ToldI V ok v e w') := by
  rcases Bool.eq_false_or_eq_true (goodM l) with hg | hg
  · refine ⟨tab (plN l), true, by rw [tab_len]; exact Nat.le_refl _, (fun _ => ⟨rfl, rfl⟩), fun q d v hv => ?_, fun q d v hv => ?_⟩
    · refine (splaces_any q d l v hn hv).mono ?_
      rintro e w' (⟨_, h⟩ | ⟨h, _⟩)
      · exact h.told
      · rw [hg] at h; cases h
    · refine (iplaces_any q d l v hn hb.fit hv).mono ?_
      rintro e w' (⟨_, h⟩ | ⟨h, _⟩)
      · exact h.told
      · rw [hg] at h; cases h
  · refine ⟨[], false, by decide, (fun h => by rw [hg] at h; cases h), fun q d v hv => ?_, fun q d v hv => ?_⟩
    · refine (splaces_any q d l v hn hv).mono ?_
      rintro e w' (⟨h, _⟩ | ⟨_, h⟩)
      · rw [hg] at h; cases h
      · exact h.told
    · refine (iplaces_any q d l v hn hb.fit hv).mono ?_
      rintro e w' (⟨h, _⟩ | ⟨_, h⟩)
      · rw [hg] at h; cases h
      · exact h.told
theorem trim_tells (l : List Sx) (p n : Int) (hn : l.length ≤ 1048576) (hb : Bnd l) (hp : fit p) (hq : fit n) : ∃ (V : List Sx) (ok : Bool), V.length ≤ 16 ∧ Bnd V ∧
    (ok = true → goodM l = true ∧ inB p n = true ∧ V = mapF (cutF (plN l) p.toNat n.toNat) 16) ∧
    (∀ q d v, Xs v.heap.size q l v → Calls Try.prog 27 #[.slice q l.length d, .int .i64 p, .int .i64 n] v fun e w' => ToldX V ok v e w') ∧
    (∀ q d v, Xs v.heap.size q l v → Calls Try.prog 26 #[.slice q l.length d, .int .i64 p, .int .i64 n] v fun e w' => ToldX V ok v e w') := by
  by_cases hg : goodM l = true ∧ inB p n = true
  · have gx := hg.2
    unfold inB at gx
    rw [decide_eq_true_iff] at gx
    obtain ⟨p, rfl⟩ : ∃ p' : Nat, p = p' := ⟨p.toNat, by omega⟩
    obtain ⟨n, rfl⟩ : ∃ n' : Nat, n = n' := ⟨n.toNat, by omega⟩
    have hr := cutF_range (plN l) p n (plN_range l hg.1)
    exact ⟨_, true, mapF_len _ hr, Bnd.good (mapF_good _ hr), (fun _ => ⟨hg.1, hg.2, by rw [Int.toNat_natCast, Int.toNat_natCast]⟩), fun q d v hv => (strim_yes q d l p n v hn hv hg.1 hg.2).mono fun _ _ h => h.told, fun q d v hv => (itrim_yes q d l p n v hb.fit hv hg.1 hg.2).mono fun _ _ h => h.told⟩
  · exact ⟨[], false, by decide, (fun _ h => by cases h), (fun h => by cases h), fun q d v hv => (strim_no q d l p n v hn hv hg).mono fun _ _ h => h.told, fun q d v hv => (itrim_no q d l p n v hn hb.fit hp hq hv hg).mono fun _ _ h => h.told⟩
theorem unl_tells (l m : List Sx) (hn : l.length ≤ 1048576) (hm : m.length ≤ 1048576) (hb : Bnd l) (hc : Bnd m) : ∃ (V : List Int) (ok : Bool), V.length ≤ 16 ∧ (ok = true → goodM l = true ∧ goodM m = true) ∧ (goodM l = true → goodM m = true → ok = true ∧ V = diffs (plN l) (plN m) 16) ∧
    (∀ q d q' d' v, Xs v.heap.size q l v → Xs v.heap.size q' m v → Calls Try.prog 23 #[.slice q l.length d, .slice q' m.length d'] v fun e w' => ToldI V ok v e w') ∧
    (∀ q d q' d' v, Xs v.heap.size q l v → Xs v.heap.size q' m v → Calls Try.prog 22 #[.slice q l.length d, .slice q' m.length d'] v fun e w' => ToldI V ok v e w') := by
  by_cases hg : goodM l = true ∧ goodM m = true
  · exact ⟨_, true, diffs_len _ _ 16, (fun _ => hg), (fun _ _ => ⟨rfl, rfl⟩), fun q d q' d' v h1 h2 => (sunl_yes q q' d d' l m v hn hm h1 h2 hg.1 hg.2).mono fun _ _ h => h.told, fun q d q' d' v h1 h2 => (iunl_yes q q' d d' l m v hb.fit hc.fit h1 h2 hg.1 hg.2).mono fun _ _ h => h.told⟩
  · exact ⟨[], false, by decide, (fun h => by cases h), (fun h1 h2 => absurd ⟨h1, h2⟩ hg), fun q d q' d' v h1 h2 => (sunl_no q q' d d' l m v hn hm h1 h2 hg).mono fun _ _ h => h.told, fun q d q' d' v h1 h2 => (iunl_no q q' d d' l m v hn hm hb.fit hc.fit h1 h2 hg).mono fun _ _ h => h.told⟩
theorem shift_tells (l : List Sx) (p q d : Int) (hn : l.length ≤ 1048576) (hb : Bnd l) : ∃ (V : List Sx) (ok : Bool), V.length ≤ 16 ∧ Bnd V ∧
    (ok = true → goodM l = true ∧ argS p q d ∧ okS (plN l) p q d = true ∧ V = mapF (shF (plN l) p q d 16) 16) ∧ (goodM l = true → argS p q d → okS (plN l) p q d = true → ok = true) ∧
    (∀ x y v, Xs v.heap.size x l v → Calls Try.prog 30 #[.slice x l.length y, .int .i64 p, .int .i64 q, .int .i64 d] v fun e w' => ToldX V ok v e w') ∧
    (∀ x y v, Xs v.heap.size x l v → Calls Try.prog 29 #[.slice x l.length y, .int .i64 p, .int .i64 q, .int .i64 d] v fun e w' => ToldX V ok v e w') := by
  by_cases hg : goodM l = true ∧ argS p q d
  · cases ho : okS (plN l) p q d
    · refine ⟨[], false, by decide, (fun _ h => by cases h), (fun h => by cases h), (fun _ _ h => by cases h), fun x y v hv => ?_, fun x y v hv => ?_⟩
      · refine (sshift_in x y l p q d v hn hv hg.1 hg.2).mono ?_
        rintro e w' (⟨h, _⟩ | ⟨_, h⟩)
        · rw [ho] at h; cases h
        · exact h.told
      · refine (ishift_in x y l p q d v hb.fit hv hg.1 hg.2).mono ?_
        rintro e w' (⟨h, _⟩ | ⟨_, h⟩)
        · rw [ho] at h; cases h
        · exact h.told
    · have hr := shF_range (plN l) p q d (plN_range l hg.1) (fun b hb => by
        unfold okS at ho
        rw [List.all_eq_true] at ho
        exact ho b (List.mem_range.2 hb))
      refine ⟨mapF (shF (plN l) p q d 16) 16, true, mapF_len _ hr, Bnd.good (mapF_good _ hr), (fun _ => ⟨hg.1, hg.2, rfl, rfl⟩), (fun _ _ _ => rfl), fun x y v hv => ?_, fun x y v hv => ?_⟩
      · refine (sshift_in x y l p q d v hn hv hg.1 hg.2).mono ?_
        rintro e w' (⟨_, h⟩ | ⟨h, _⟩)
        · exact h.told
        · rw [ho] at h; cases h
      · refine (ishift_in x y l p q d v hb.fit hv hg.1 hg.2).mono ?_
        rintro e w' (⟨_, h⟩ | ⟨h, _⟩)
        · exact h.told
        · rw [ho] at h; cases h
  · exact ⟨[], false, by decide, (fun _ h => by cases h), (fun h => by cases h), (fun h1 h2 _ => absurd ⟨h1, h2⟩ hg), fun x y v hv => (sshift_no x y l p q d v hn hv hg).mono fun _ _ h => h.told, fun x y v hv => (ishift_no x y l p q d v hn hb.fit hv hg).mono fun _ _ h => h.told⟩
end Go.Proofs.Ytgipkpldlkmdkaa
