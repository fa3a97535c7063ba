/- ElementaryOf: the program and the model. -/
import Derived.Test.YtipeillhafcliaaJSum
import Derived.BigQuiet
namespace Go.Proofs.Ytipeillhafcliaa
set_option maxRecDepth 100000
open Go Go.ChangeShapes Go.WideShapes Go.ChangeAt Go.RowKit
theorem mulB {a b : Int} (ha : -1000000000 ≤ a ∧ a ≤ 1000000000) (hb : -1000000000 ≤ b ∧ b ≤ 1000000000) : -1000000000000000000 ≤ a * b ∧ a * b ≤ 1000000000000000000 := by
  have h1 : (a * b).natAbs ≤ 1000000000 * 1000000000 := by
    rw [Int.natAbs_mul]
    exact Nat.mul_le_mul (by omega) (by omega)
  omega
/-- Newton's sum, as the program goes: from the last p back -/
def nsI (e p : List Int) (k : Nat) : Nat → Int
  | 0 => 0
  | i + 1 => e.getD i 0 * p.getD (k - 1 - i) 0 - nsI e p k i
def sg (i : Nat) : Int := if i % 2 = 0 then 1 else -1
/-- and as the model goes -/
def nsS (e p : List Int) (k : Nat) : Nat → Int
  | 0 => 0
  | i + 1 => nsS e p k i + sg i * e.getD (k - (i + 1)) 0 * p.getD i 0
theorem ns_same (e p : List Int) (k : Nat) (h : k ≤ 4) : nsI e p k k = nsS e p k k := by
  have : k = 0 ∨ k = 1 ∨ k = 2 ∨ k = 3 ∨ k = 4 := by omega
  rcases this with rfl | rfl | rfl | rfl | rfl
  · rfl
  · simp [nsI, nsS, sg]
  · simp only [nsI, nsS, sg]; simp [Int.neg_mul]; omega
  · simp only [nsI, nsS, sg]; simp [Int.neg_mul]; omega
  · simp only [nsI, nsS, sg]; simp [Int.neg_mul]; omega
def termL (l : List Int) : Prop := ∀ j (h : j < l.length), -1000000000 ≤ l[j] ∧ l[j] ≤ 1000000000
theorem termL_get {l : List Int} (h : termL l) (i : Nat) : -1000000000 ≤ l.getD i 0 ∧ l.getD i 0 ≤ 1000000000 := by
  rw [List.getD_eq_getElem?_getD]
  by_cases hi : i < l.length
  · rw [List.getElem?_eq_getElem hi]; exact h i hi
  · rw [List.getElem?_eq_none (by omega)]; exact ⟨by decide, by decide⟩
theorem getD_at (l : List Int) (i : Nat) (h : i < l.length) : l.getD i 0 = l[i] := by
  rw [List.getD_eq_getElem?_getD, List.getElem?_eq_getElem h]; rfl
theorem nsI_bnd {e p : List Int} (he : termL e) (hp : termL p) (k : Nat) : ∀ i : Nat, i ≤ 4 → -(1000000000000000000 * (i : Int)) ≤ nsI e p k i ∧ nsI e p k i ≤ 1000000000000000000 * (i : Int)
  | 0, _ => by show _ ≤ (0 : Int) ∧ (0 : Int) ≤ _; omega
  | i + 1, hi => by
    have h1 := nsI_bnd he hp k i (by omega)
    have h2 := mulB (termL_get he i) (termL_get hp (k - 1 - i))
    show _ ≤ e.getD i 0 * p.getD (k - 1 - i) 0 - nsI e p k i ∧ e.getD i 0 * p.getD (k - 1 - i) 0 - nsI e p k i ≤ _
    omega
theorem sg_cases (i : Nat) : sg i = 1 ∨ sg i = -1 := by unfold sg; split <;> simp
theorem sg_succ (i : Nat) : sg (i + 1) = - sg i := by
  unfold sg
  by_cases h : i % 2 = 0
  · rw [if_pos h, if_neg (by omega)]
  · rw [if_neg h, if_pos (by omega)]; rfl
theorem sg_mul (i : Nat) {x : Int} (h : -1000000000 ≤ x ∧ x ≤ 1000000000) : -1000000000 ≤ sg i * x ∧ sg i * x ≤ 1000000000 := by
  rcases sg_cases i with e | e <;> rw [e] <;> omega
theorem nsS_bnd {e p : List Int} (he : termL e) (hp : termL p) (k : Nat) : ∀ i : Nat, i ≤ 4 → -(1000000000000000000 * (i : Int)) ≤ nsS e p k i ∧ nsS e p k i ≤ 1000000000000000000 * (i : Int)
  | 0, _ => by show _ ≤ (0 : Int) ∧ (0 : Int) ≤ _; omega
  | i + 1, hi => by
    have h1 := nsS_bnd he hp k i (by omega)
    have h2 := mulB (sg_mul i (termL_get he (k - (i + 1)))) (termL_get hp i)
    show _ ≤ nsS e p k i + sg i * e.getD (k - (i + 1)) 0 * p.getD i 0 ∧ nsS e p k i + sg i * e.getD (k - (i + 1)) 0 * p.getD i 0 ≤ _
    omega
theorem nsI_take (e p : List Int) (k : Nat) (hk : 0 < k) : ∀ i, nsI e (p.take k) k i = nsI e p k i
  | 0 => rfl
  | i + 1 => by
    show e.getD i 0 * (p.take k).getD (k - 1 - i) 0 - nsI e (p.take k) k i = e.getD i 0 * p.getD (k - 1 - i) 0 - nsI e p k i
    rw [nsI_take e p k hk i]
    congr 2
    rw [List.getD_eq_getElem?_getD, List.getD_eq_getElem?_getD, List.getElem?_take_of_lt (by omega)]
set_option maxHeartbeats 2000000 in
theorem newtonSum_any (pe pp : Option Addr) (ce cp : Nat) (e p : List Int) (w : World) (hl : e.length = p.length) (h4 : p.length ≤ 4) (he : termL e) (hp : termL p) (hE : Is w.heap.size pe e w) (hP : Is w.heap.size pp p w) :
    Calls Try.prog 42 #[.slice pe e.length ce, .slice pp p.length cp] w fun en w' => en = .returned (.int .i64 (nsI e p p.length p.length)) ∧ w' = w := by
  have HE := hid hE
  have HP := hid hP
  have HL := hid hl
  have HTE := hid he
  have HTP := hid hp
  clear hE hP hl he hp
  go_enter Try.func42, Try.ntmps42
  go_wp2
  go_loop [5, 10] (fun s i => ∃ k : Nat, k ≤ e.length ∧ i = .int .i64 k ∧ s = .int .i64 (nsI e p p.length k)) (fun _ i => e.length - (intOf i).toNat)
  case atStart => exact ⟨0, Nat.zero_le _, rfl, rfl⟩
  case round =>
    obtain ⟨k, hk, rfl, rfl⟩ := hrel
    have hle := HL.out
    by_cases hlt : k < e.length
    · obtain ⟨b1, o1, rfl, hb1, hc1⟩ := HE.out.cell (by omega)
      obtain ⟨b2, o2, rfl, hb2, hc2⟩ := HP.out.cell (by omega)
      obtain ⟨m, hm⟩ : ∃ m : Nat, p.length - 1 - k = m := ⟨_, rfl⟩
      have hml : m < p.length := by omega
      have x0 := hc1 k hlt
      have y0 := hc2 m hml
      have HN : Hid (nsI e p p.length (k + 1) = e[k] * p[m] - nsI e p p.length k) := by
        show e.getD k 0 * p.getD (p.length - 1 - k) 0 - nsI e p p.length k = _
        rw [hm, getD_at e k hlt, getD_at p m hml]
      have HB := hid (nsI_bnd HTE.out HTP.out p.length k (by omega))
      have HM := hid (mulB (HTE.out k hlt) (HTP.out m hml))
      have HB2 := hid (nsI_bnd HTE.out HTP.out p.length (k + 1) (by omega))
      have hw0 : (p.length : Int) - 1 - (k : Int) = (m : Int) := by omega
      have hi : (m : Int) < (p.length : Int) := by omega
      have hw1 : wrap64 (e[k] * p[m]) = e[k] * p[m] := by have := HM.out; unfold wrap64; omega
      have hw2 : wrap64 (e[k] * p[m] - nsI e p p.length k) = nsI e p p.length (k + 1) := by rw [← HN.out]; have := HB2.out; unfold wrap64; omega
      clear hc1 hc2 HN HB HM HB2 hm hle
      generalize nsI e p p.length k = s0 at *
      generalize e[k] = x at *
      generalize p[m] = y at *
      go_wp2
      go_round
      · exact ⟨k + 1, by omega, by go_num, by simp only [hw2]⟩
      · simp [intOf]; omega
    · obtain rfl : k = e.length := by omega
      clear hle
      have HV : Hid (nsI e p p.length e.length = nsI e p p.length p.length) := by show _ = _; rw [HL.out]
      go_wp2
      go_ret
      exact ⟨congrArg (fun n => Ending.returned (.int .i64 n)) HV.out, rfl⟩
/-- e(0) to e(k), where all can be divided and are not too great -/
def elStep (p : List Int) (k : Nat) (e : List Int) : Option (List Int) :=
  if (nsI e p (k + 1) (k + 1)).tmod ((k : Int) + 1) = 0 then
    if termB ((nsI e p (k + 1) (k + 1)).tdiv ((k : Int) + 1)) then some (e ++ [(nsI e p (k + 1) (k + 1)).tdiv ((k : Int) + 1)]) else none
  else none
def elE (p : List Int) : Nat → Option (List Int)
  | 0 => some [1]
  | k + 1 => (elE p k).bind (elStep p k)
theorem elE_none {p : List Int} {k : Nat} (h : elE p k = none) : ∀ n, k ≤ n → elE p n = none := by
  intro n hn
  induction n with
  | zero => obtain rfl : k = 0 := by omega
            exact h
  | succ n ih =>
    by_cases e : k = n + 1
    · rw [← e]; exact h
    · show (elE p n).bind (elStep p n) = none
      rw [ih (by omega)]; rfl
theorem elE_bad1 {p e : List Int} {k : Nat} (h : elE p k = some e) (hr : (nsI e p (k + 1) (k + 1)).tmod ((k : Int) + 1) ≠ 0) : elE p (k + 1) = none := by
  show (elE p k).bind (elStep p k) = none
  rw [h]
  show elStep p k e = none
  unfold elStep
  rw [if_neg hr]
theorem elE_bad2 {p e : List Int} {k : Nat} (h : elE p k = some e) (hr : termB ((nsI e p (k + 1) (k + 1)).tdiv ((k : Int) + 1)) = false) : elE p (k + 1) = none := by
  show (elE p k).bind (elStep p k) = none
  rw [h]
  show elStep p k e = none
  unfold elStep
  split
  · rw [hr]; rfl
  · rfl
theorem elE_on {p e : List Int} {k : Nat} (h : elE p k = some e) (hr : (nsI e p (k + 1) (k + 1)).tmod ((k : Int) + 1) = 0) (ht : termB ((nsI e p (k + 1) (k + 1)).tdiv ((k : Int) + 1)) = true) :
    elE p (k + 1) = some (e ++ [(nsI e p (k + 1) (k + 1)).tdiv ((k : Int) + 1)]) := by
  show (elE p k).bind (elStep p k) = _
  rw [h]
  show elStep p k e = _
  unfold elStep
  rw [if_pos hr, ht]
  rfl
theorem termL_snoc {e : List Int} {x : Int} (h : termL e) (hx : termB x = true) : termL (e ++ [x]) := by
  intro j hj
  by_cases h1 : j < e.length
  · rw [List.getElem_append_left h1]; exact h j h1
  · rw [List.getElem_append_right (by omega)]
    simp
    exact termB_iff.1 hx
def elemOk (p : List Int) : Bool := goodN p && (elE p p.length).isSome
def elemV (p : List Int) : List Int := bif goodN p then ((elE p p.length).getD []).tail else []
theorem elem_no1 {p : List Int} (h : goodN p = false) : elemOk p = false ∧ elemV p = [] := by unfold elemOk elemV; rw [h]; exact ⟨rfl, rfl⟩
theorem elem_no2 {p : List Int} (h : elE p p.length = none) : elemOk p = false ∧ elemV p = [] := by
  unfold elemOk elemV; rw [h]; cases goodN p <;> exact ⟨rfl, rfl⟩
theorem elem_yes {p e : List Int} (hg : goodN p = true) (h : elE p p.length = some e) : elemOk p = true ∧ elemV p = e.tail := by
  unfold elemOk elemV; rw [hg, h]; exact ⟨rfl, rfl⟩
theorem elE_len {p : List Int} : ∀ {k : Nat} {e : List Int}, elE p k = some e → e.length = k + 1 := by
  intro k
  induction k with
  | zero => intro e h; cases h; rfl
  | succ k ih =>
    intro e h
    have h' : (elE p k).bind (elStep p k) = some e := h
    cases hk : elE p k with
    | none => rw [hk] at h'; cases h'
    | some d =>
      rw [hk] at h'
      have h2 : elStep p k d = some e := h'
      unfold elStep at h2
      split at h2
      · split at h2
        · cases h2
          rw [List.length_append, ih hk]; rfl
        · cases h2
      · cases h2
theorem elE_head {p : List Int} : ∀ {k : Nat} {e : List Int}, elE p k = some e → e.head? = some 1 := by
  intro k
  induction k with
  | zero => intro e h; cases h; rfl
  | succ k ih =>
    intro e h
    have h' : (elE p k).bind (elStep p k) = some e := h
    cases hk : elE p k with
    | none => rw [hk] at h'; cases h'
    | some d =>
      rw [hk] at h'
      have h2 : elStep p k d = some e := h'
      have h3 := ih hk
      unfold elStep at h2
      split at h2
      · split at h2
        · cases h2
          cases d with
          | nil => cases h3
          | cons y d => exact h3
        · cases h2
      · cases h2
theorem elemV_len (p : List Int) : (elemV p).length ≤ 4 := by
  cases hg : goodN p
  · rw [(elem_no1 hg).2]; exact Nat.zero_le _
  · cases h : elE p p.length with
    | none => rw [(elem_no2 h).2]; exact Nat.zero_le _
    | some e => rw [(elem_yes hg h).2, List.length_tail, elE_len h]; have := goodN_len hg; omega
theorem AL.one (w : World) (n : Int) : AL w.heap.size (.slice (some ⟨w.heap.size, 0, none⟩) 1 1) [n] (w.alloc (.cells #[.int .i64 n] 3)) :=
  ⟨rfl, Or.inr ⟨w.heap.size, 1, #[.int .i64 n], rfl, Nat.le_refl _, heap_last w _, Nat.le_refl _, by unfold maxLen; omega, rfl, rfl⟩⟩
theorem is_ofJ {lo : Nat} {a : Option Addr} {n c : Nat} {l : List Int} {w : World} (h : AL lo (.slice a n c) l w) : Is w.heap.size a l w := by
  obtain ⟨b, c', e, ho, _⟩ := h.own
  injection e with e1 _ _
  subst e1
  exact ho.is
/-- of a list of one's own all but its first number -/
theorem JOut.alTail {V : List Int} {x : Int} {R n c : Nat} {w w' : World} (h : AL w.heap.size (.slice (some ⟨R, 0, none⟩) (n + 1) c) (x :: V) w') (g : Below w.heap.size w w') (hn : V.length = n) :
    JOut V true w (.returned (.tuple #[.slice (some ⟨R, 1, none⟩) n (c - 1), .bool true])) w' := by
  obtain ⟨b, c', e, ho, hc⟩ := h.own
  injection e with e1 e2 e3
  subst e1 e3
  rcases ho with ho | ⟨R', h1, h3, e4, hr⟩
  · cases ho
  · injection e4 with e4
    injection e4 with e4
    subst e4
    refine ⟨some ⟨R, 1, none⟩, c - 1, by rw [hn], Or.inr ⟨R, 1, [x], h1, h3, rfl, rfl, hr⟩, g, ?_⟩
    simp at hc
    omega
set_option maxHeartbeats 4000000 in
theorem iElem_good (a : Option Addr) (cap : Nat) (p : List Int) (w : World) (hcap : p.length ≤ cap) (hZ : Is w.heap.size a p w) (hg : goodN p = true) :
    Calls Try.prog 19 #[.slice a p.length cap] w (JOut (elemV p) (elemOk p) w) := by
  have hn4 := goodN_len hg
  have HG := hid (goodTerms_any a cap p w (by omega) hZ)
  rw [hg] at HG
  have HTP : Hid (termL p) := goodN_at hg
  have HGG := hid hg
  have HZ := hid hZ
  have HS0 := hid (AL.one w 1)
  clear hZ hg
  obtain ⟨VV, hVV⟩ : ∃ V, elemV p = V := ⟨_, rfl⟩
  obtain ⟨oo, hoo⟩ : ∃ o, elemOk p = o := ⟨_, rfl⟩
  rw [hVV, hoo]
  have HVV := hid hVV
  have HOO := hid hoo
  clear hVV hoo
  go_enter Try.func19, Try.ntmps19
  go_wp2_with fail
  refine HG.out.mono ?_
  rintro en w2 ⟨rfl, hw2⟩
  rw [hw2]
  clear hw2 HG
  go_wp2
  go_loopw [4, 5] (fun o i wr => ∃ (k : Nat) (o1 : Value) (E : List Int), k ≤ p.length ∧ i = .int .i64 ((k : Int) + 1) ∧ o = o1 ∧ elE p k = some E ∧ E.length = k + 1 ∧ termL E ∧ AL w.heap.size o1 E wr ∧ Below w.heap.size w wr) (fun _ i _ => (p.length + 1) - (intOf i).toNat)
  case atStart => exact ⟨0, _, [1], Nat.zero_le _, rfl, rfl, rfl, rfl, (fun j hj => by simp at hj; subst hj; simp), HS0.out, boxB w _⟩
  case round =>
    obtain ⟨k, _, E, hk, rfl, rfl, hel, hle, hte, hown, hbel⟩ := hrel
    have HEL := hid hel
    have HLE := hid hle
    have HTE := hid hte
    have HBEL := hid hbel
    have hszr := hbel.size
    obtain ⟨R, cE, e5, hcE, hR⟩ : ∃ R c, u4 = .slice (some ⟨R, 0, none⟩) E.length c ∧ E.length ≤ c ∧ w.heap.size ≤ R := by
      rcases hown.form with ⟨_, h2⟩ | h2
      · rw [h2] at hle; cases hle
      · exact h2
    subst e5
    have HOWN := hid hown
    by_cases hlt : k < p.length
    · obtain ⟨b1, o1, rfl, hb1, hc1⟩ := HZ.out.cell (by omega)
      have hd : decide ((k : Int) + 1 ≤ (p.length : Int)) = true := decide_eq_true (by omega)
      have hpk : (p.take (k + 1)).length = k + 1 := by rw [List.length_take]; omega
      have NS := hid (newtonSum_any (some ⟨R, 0, none⟩) (some ⟨b1, o1, none⟩) cE cap E (p.take (k + 1)) wr (by omega) (by omega) hte (fun j hj => by
        rw [List.getElem_take]; exact HTP.out j (by rw [hpk] at hj; omega)) (is_ofJ hown) ((is_take (HZ.out.below hbel) (k + 1)).mono hszr))
      rw [hpk, nsI_take E p (k + 1) (by omega)] at NS
      have i1 : (k : Int) + 1 ≤ (cap : Int) := by omega
      have i2 : k + 1 ≤ cap := by omega
      have hk0 : (k : Int) + 1 ≠ 0 := by omega
      have HB := hid (nsI_bnd HTE.out HTP.out (k + 1) (k + 1) (by omega))
      obtain ⟨s, hs⟩ : ∃ s, nsI E p (k + 1) (k + 1) = s := ⟨_, rfl⟩
      have HR1 := hid (elE_bad1 hel)
      have HR2 := hid (elE_bad2 hel)
      have HR3 := hid (elE_on hel)
      rw [hs] at NS HB HR1 HR2 HR3
      clear hs hc1 hpk hle hte hown hel hbel hk0
      go_wp2_with fail
      refine NS.out.mono ?_
      rintro en w3 ⟨rfl, hw3⟩
      rw [hw3]
      clear hw3 NS
      by_cases hr : s.tmod ((k : Int) + 1) = 0
      case neg =>
        have HN := hid (elE_none (HR1.out hr) p.length (by omega))
        have hb : (s.tmod ((k : Int) + 1) != 0) = true := bne_iff_ne.2 hr
        clear hr
        go_wp2
        go_ret2
        rw [← HVV.out, ← HOO.out, (elem_no2 HN.out).1, (elem_no2 HN.out).2]
        exact JOut.no HBEL.out
      have hb : (s.tmod ((k : Int) + 1) != 0) = false := by rw [hr]; rfl
      have hq : IntKind.i64.wrap (s.tdiv ((k : Int) + 1)) = s.tdiv ((k : Int) + 1) := IntWalk.i64_quo' s _ ⟨by have := HB.out; omega, by have := HB.out; omega, by omega⟩
      have hq2 : wrap64 (s.tdiv ((k : Int) + 1)) = s.tdiv ((k : Int) + 1) := by have h := hq; rw [IntKind.wrap_i64] at h; unfold wrap64; exact h
      clear hr
      obtain ⟨v', w', r1, oo1, g1, -⟩ := HOWN.out.push hszr (s.tdiv ((k : Int) + 1)) (by have := HLE.out; omega)
      have HO1 := hid oo1
      have HB1 : Hid (Below w.heap.size w w') := HBEL.out.trans g1
      clear oo1 g1
      have hr : s.tmod ((k : Int) + 1) = 0 := by simpa using hb
      have HR4 := hid (HR3.out hr)
      clear hr HR3 HR1
      go_wp2_with fail
      refine (isTerm_any _ _).mono ?_
      rintro en w3 ⟨rfl, hw3⟩
      rw [hw3]
      clear hw3
      cases ht : termB (s.tdiv ((k : Int) + 1))
      · have HN := hid (elE_none (HR2.out ht) p.length (by omega))
        go_wp2
        go_ret2
        rw [← HVV.out, ← HOO.out, (elem_no2 HN.out).1, (elem_no2 HN.out).2]
        exact JOut.no HBEL.out
      · have HTS := hid (termL_snoc HTE.out ht)
        have HR5 := hid (HR4.out ht)
        have HLS : Hid ((E ++ [s.tdiv ((k : Int) + 1)]).length = k + 1 + 1) := by show _ = _; rw [List.length_append, HLE.out]; rfl
        clear HR2 HR4 ht HTE HOWN HEL HLE
        go_wp2_with (at_builtin; refine wpList_append_run rfl (.tmp 33) (.tmp 37) 23 rfl _ _ rfl rfl _ _ r1 ?_)
        go_roundw
        case rel => exact ⟨k + 1, _, _, by omega, by go_num, rfl, HR5.out, HLS.out, HTS.out, HO1.out, HB1.out⟩
        case measure => simp [intOf]; omega
    · obtain rfl : k = p.length := by omega
      have hd : decide ((p.length : Int) + 1 ≤ (p.length : Int)) = false := decide_eq_false (by omega)
      have HY := hid (elem_yes HGG.out hel)
      rcases Nat.eq_zero_or_pos p.length with hp0 | hp0
      · have hE1 : E.length = 1 := by omega
        have HT0 : Hid (E.tail = []) := by
          show E.tail = []
          apply List.eq_nil_of_length_eq_zero
          rw [List.length_tail, hE1]
        have j1 : E.length - 1 = 0 := by omega
        have j2 : 1 ≤ E.length := by omega
        have j3 : (1 : Int) ≤ (E.length : Int) := by omega
        have j4 : E.length ≤ cE := hcE
        clear hle hel hte hown hbel hp0 hE1
        go_wp2
        all_goals
          go_ret2
          rw [← HVV.out, ← HOO.out, HY.out.1, HY.out.2, HT0.out]
          exact JOut.nil HBEL.out (by omega)
      · have j0 : E.length - 1 = p.length := by omega
        have j2 : 1 ≤ E.length := by omega
        have j3 : (1 : Int) ≤ (E.length : Int) := by omega
        have j5 : ¬ cE = 1 := by omega
        have HC : Hid (AL w.heap.size (.slice (some ⟨R, 0, none⟩) (p.length + 1) cE) (1 :: E.tail) wr) := by
          show AL _ _ _ _
          have e1 : p.length + 1 = E.length := by omega
          have e2 : (1 : Int) :: E.tail = E := by
            have := elE_head hel
            cases E with
            | nil => cases hle
            | cons x E => simp at this; rw [this]; rfl
          rw [e1, e2]
          exact hown
        have HTL : Hid (E.tail.length = p.length) := List.length_tail.trans j0
        clear hle hel hte hown hbel hp0
        go_wp2
        go_ret2
        rw [← HVV.out, ← HOO.out, HY.out.1, HY.out.2]
        exact JOut.alTail HC.out HBEL.out HTL.out
set_option maxHeartbeats 1000000 in
theorem iElem_any (a : Option Addr) (cap : Nat) (p : List Int) (w : World) (hn : p.length ≤ 1048576) (hcap : p.length ≤ cap) (hZ : Is w.heap.size a p w) :
    Calls Try.prog 19 #[.slice a p.length cap] w (JOut (elemV p) (elemOk p) w) := by
  cases hg : goodN p
  · rw [(elem_no1 hg).1, (elem_no1 hg).2]
    have HG := hid (goodTerms_any a cap p w hn hZ)
    rw [hg] at HG
    go_enter Try.func19, Try.ntmps19
    go_wp2_with fail
    refine HG.out.mono ?_
    rintro en w2 ⟨rfl, hw2⟩
    rw [hw2]
    clear hw2
    go_wp2
    go_ret2
    exact JOut.no (Below.refl _ _)
  · exact iElem_good a cap p w hcap hZ hg
set_option maxHeartbeats 4000000 in
theorem sElem_good (a : Option Addr) (cap : Nat) (p : List Int) (w : World) (hZ : Is w.heap.size a p w) (hg : goodN p = true) :
    Calls Try.prog 24 #[.slice a p.length cap] w (JOut (elemV p) (elemOk p) w) := by
  have hn4 := goodN_len hg
  have HG := hid (l12Numbers_any a cap p w (by omega) hZ)
  rw [hg] at HG
  have HTP : Hid (termL p) := goodN_at hg
  have HGG := hid hg
  have HZ := hid hZ
  have HS0 := hid (AL.one w 1)
  clear hZ hg
  obtain ⟨VV, hVV⟩ : ∃ V, elemV p = V := ⟨_, rfl⟩
  obtain ⟨oo, hoo⟩ : ∃ o, elemOk p = o := ⟨_, rfl⟩
  rw [hVV, hoo]
  have HVV := hid hVV
  have HOO := hid hoo
  clear hVV hoo
  go_enter Try.func24, Try.ntmps24
  go_wp2_with fail
  refine HG.out.mono ?_
  rintro en w2 ⟨rfl, hw2⟩
  rw [hw2]
  clear hw2 HG
  go_wp2
  go_loopw [4, 5] (fun o i wr => ∃ (k : Nat) (o1 : Value) (E : List Int), k ≤ p.length ∧ i = .int .i64 ((k : Int) + 1) ∧ o = o1 ∧ elE p k = some E ∧ E.length = k + 1 ∧ termL E ∧ AL w.heap.size o1 E wr ∧ Below w.heap.size w wr) (fun _ i _ => (p.length + 1) - (intOf i).toNat)
  case atStart => exact ⟨0, _, [1], Nat.zero_le _, rfl, rfl, rfl, rfl, (fun j hj => by simp at hj; subst hj; simp), HS0.out, boxB w _⟩
  case round =>
    obtain ⟨k, _, E, hk, rfl, rfl, hel, hle, hte, hown, hbel⟩ := hrel
    have HEL := hid hel
    have HLE := hid hle
    have HTE := hid hte
    have HBEL := hid hbel
    have hszr := hbel.size
    obtain ⟨R, cE, e5, hcE, hR⟩ : ∃ R c, u4 = .slice (some ⟨R, 0, none⟩) E.length c ∧ E.length ≤ c ∧ w.heap.size ≤ R := by
      rcases hown.form with ⟨_, h2⟩ | h2
      · rw [h2] at hle; cases hle
      · exact h2
    subst e5
    have HOWN := hid hown
    by_cases hlt : k < p.length
    · have hd : decide ((k : Int) + 1 ≤ (p.length : Int)) = true := decide_eq_true (by omega)
      have HR1 := hid (elE_bad1 hel)
      have HR2 := hid (elE_bad2 hel)
      have HR3 := hid (elE_on hel)
      have HB := hid (nsI_bnd HTE.out HTP.out (k + 1) (k + 1) (by omega))
      have HSM := hid (ns_same E p (k + 1) (by omega))
      clear hle hte hown hel hbel
      go_wp2
      go_loopw [6, 7, 8] (fun sm sgn i wr2 => ∃ j : Nat, j ≤ k + 1 ∧ i = .int .i64 ((j : Int) + 1) ∧ sm = .int .i64 (nsS E p (k + 1) j) ∧ sgn = .int .i64 (sg j) ∧ Below wr.heap.size wr wr2) (fun _ _ i _ => (k + 2) - (intOf i).toNat)
      case atStart => exact ⟨0, Nat.zero_le _, rfl, rfl, rfl, Below.refl _ _⟩
      case round =>
        obtain ⟨j, hj, rfl, rfl, rfl, hbel2⟩ := hrel
        have HBEL2 := hid hbel2
        by_cases hjk : j < k + 1
        · have hd2 : decide ((j : Int) + 1 ≤ (k : Int) + 1) = true := decide_eq_true (by omega)
          have hjp : j < p.length := by omega
          obtain ⟨b1, o1, rfl, hb1, hc1⟩ := HZ.out.cell (by omega)
          have x0 := ((HBEL.out.trans (hbel2.mono hszr)).cell (p := ⟨b1, o1 + j, none⟩) hb1).trans (hc1 j hjp)
          obtain ⟨m, hm⟩ : ∃ m : Nat, k + 1 - (j + 1) = m := ⟨_, rfl⟩
          have hmE : m < E.length := by have := HLE.out; omega
          obtain ⟨R', off', e, hb', hc'⟩ := (is_ofJ (HOWN.out.below hbel2)).cell (by omega)
          injection e with e; injection e with e1 e2 _
          subst e1; subst e2
          have y0 := hc' m hmE
          rw [Nat.zero_add] at y0
          have HN : Hid (nsS E p (k + 1) (j + 1) = nsS E p (k + 1) j + sg j * E[m] * p[j]) := by
            show nsS E p (k + 1) j + sg j * E.getD (k + 1 - (j + 1)) 0 * p.getD j 0 = _
            rw [hm, getD_at E m hmE, getD_at p j hjp]
          have HM1 := hid (sg_mul j (HTE.out m hmE))
          have HM2 := hid (mulB HM1.out (HTP.out j hjp))
          have HM3 := hid (nsS_bnd HTE.out HTP.out (k + 1) (j + 1) (by omega))
          have hw1 : IntKind.i64.wrap (sg j * E[m]) = sg j * E[m] := by rw [IntKind.wrap_i64]; have := HM1.out; omega
          have hw2 : IntKind.i64.wrap (sg j * E[m] * p[j]) = sg j * E[m] * p[j] := by rw [IntKind.wrap_i64]; have := HM2.out; omega
          have hw3 : IntKind.i64.wrap (nsS E p (k + 1) j + sg j * E[m] * p[j]) = nsS E p (k + 1) j + sg j * E[m] * p[j] := by rw [← HN.out, IntKind.wrap_i64]; have := HM3.out; omega
          have hw11 : wrap64 (nsS E p (k + 1) j + sg j * E[m] * p[j]) = nsS E p (k + 1) j + sg j * E[m] * p[j] := by rw [← HN.out]; have := HM3.out; unfold wrap64; omega
          have hw4 : IntKind.i64.wrap ((k : Int) + 1 - ((j : Int) + 1)) = (m : Int) := by rw [IntKind.wrap_i64]; omega
          have hw5 : (k : Int) + 1 - ((j : Int) + 1) = (m : Int) := by omega
          have hw6 : IntKind.i64.wrap (m : Int) = (m : Int) := by rw [IntKind.wrap_i64]; omega
          have hw7 : IntKind.i64.wrap ((j : Int) + 1 - 1) = (j : Int) := by rw [IntKind.wrap_i64]; omega
          have hw8 : IntKind.i64.wrap (j : Int) = (j : Int) := by rw [IntKind.wrap_i64]; omega
          have hw9 : wrap64 (-sg j) = sg (j + 1) := by rw [sg_succ]; rcases sg_cases j with e | e <;> rw [e] <;> (unfold wrap64; omega)
          have hw10 : (j : Int) + 1 - 1 = (j : Int) := by omega
          have i1 : (m : Int) < (E.length : Int) := by omega
          have i2 : (j : Int) < (p.length : Int) := by omega
          clear hc1 hc' HM1 HM2 HM3 hm hbel2
          rw [← HN.out] at hw3
          generalize nsS E p (k + 1) j = s0 at *
          generalize hsj : sg j = sj at *
          generalize E[m] = y at *
          generalize p[j] = x at *
          go_wp2_with fail
          go_big_region
          go_wp2
          go_roundw
          case rel =>
            refine ⟨j + 1, by omega, by go_num, ?_, ?_, HBEL2.out.drew⟩
            · rw [HN.out, hw11]
            · rw [← hw9]
          case measure => simp [intOf]; omega
        · obtain rfl : j = k + 1 := by omega
          have hd2 : decide (((k + 1 : Nat) : Int) + 1 ≤ (k : Int) + 1) = false := decide_eq_false (by omega)
          have hd3 : decide ((k : Int) + 1 + 1 ≤ (k : Int) + 1) = false := decide_eq_false (by omega)
          rw [← HSM.out]
          obtain ⟨s, hs⟩ : ∃ s, nsI E p (k + 1) (k + 1) = s := ⟨_, rfl⟩
          rw [hs] at HB HR1 HR2 HR3
          rw [hs]
          have HOW2 := hid (HOWN.out.below hbel2)
          have HBE2 := hid (HBEL.out.trans (hbel2.mono hszr))
          have hszr2 := HBE2.out.size
          clear hs hbel2 HBEL2 HSM HOWN HBEL
          have hk0 : (k : Int) + 1 ≠ 0 := by omega
          by_cases hr : s.tmod ((k : Int) + 1) = 0
          case neg =>
            have HN := hid (elE_none (HR1.out hr) p.length (by omega))
            have hb : (s.tmod ((k : Int) + 1) != 0) = true := bne_iff_ne.2 hr
            clear hr
            go_wp2
            go_ret2
            rw [← HVV.out, ← HOO.out, (elem_no2 HN.out).1, (elem_no2 HN.out).2]
            exact JOut.no HBE2.out
          have hb : (s.tmod ((k : Int) + 1) != 0) = false := by rw [hr]; rfl
          have hq : IntKind.i64.wrap (s.tdiv ((k : Int) + 1)) = s.tdiv ((k : Int) + 1) := IntWalk.i64_quo' s _ ⟨by have := HB.out; omega, by have := HB.out; omega, by omega⟩
          have hq2 : wrap64 (s.tdiv ((k : Int) + 1)) = s.tdiv ((k : Int) + 1) := by have h := hq; rw [IntKind.wrap_i64] at h; unfold wrap64; exact h
          have HR4 := hid (HR3.out hr)
          clear hr HR3 HR1
          obtain ⟨v', w', r1, oo1, g1, -⟩ := HOW2.out.push hszr2 (s.tdiv ((k : Int) + 1)) (by have := HLE.out; omega)
          have HO1 := hid oo1
          have HB1 : Hid (Below w.heap.size w w') := HBE2.out.trans g1
          clear oo1 g1
          cases ht : termB (s.tdiv ((k : Int) + 1))
          · have HN := hid (elE_none (HR2.out ht) p.length (by omega))
            have hno : s.tdiv ((k : Int) + 1) < -1000000000 ∨ 1000000000 < s.tdiv ((k : Int) + 1) := by
              have h := of_decide_eq_false ht
              omega
            clear ht
            go_wp2_with fail
            refine (l1In_no _ _ _ _ hno).mono ?_
            rintro en w3 ⟨rfl, hw3⟩
            rw [hw3]
            clear hw3
            go_wp2
            go_ret2
            rw [← HVV.out, ← HOO.out, (elem_no2 HN.out).1, (elem_no2 HN.out).2]
            exact JOut.no HBE2.out
          · have HTS := hid (termL_snoc HTE.out ht)
            have HR5 := hid (HR4.out ht)
            have HLS : Hid ((E ++ [s.tdiv ((k : Int) + 1)]).length = k + 1 + 1) := by show _ = _; rw [List.length_append, HLE.out]; rfl
            obtain ⟨t1, t2⟩ := termB_iff.1 ht
            clear HR2 HR4 ht HTE HOW2 HEL HLE
            go_wp2_with fail
            refine (l1In_yes _ _ _ _ t1 t2).mono ?_
            rintro en w3 ⟨rfl, hw3⟩
            rw [hw3]
            clear hw3 t1 t2
            go_wp2_with (at_builtin; refine wpList_append_run rfl (.tmp 53) (.tmp 57) 23 rfl _ _ rfl rfl _ _ r1 ?_)
            go_roundw
            case rel => exact ⟨k + 1, _, _, by omega, by go_num, rfl, HR5.out, HLS.out, HTS.out, HO1.out, HB1.out⟩
            case measure => simp [intOf]; omega
    · obtain rfl : k = p.length := by omega
      have hd : decide ((p.length : Int) + 1 ≤ (p.length : Int)) = false := decide_eq_false (by omega)
      have HY := hid (elem_yes HGG.out hel)
      have hW1 := boxB wr (.cells #[] 3)
      rcases Nat.eq_zero_or_pos p.length with hp0 | hp0
      · have hE1 : E.length = 1 := by omega
        have HT0 : Hid (E.tail = []) := by
          show E.tail = []
          apply List.eq_nil_of_length_eq_zero
          rw [List.length_tail, hE1]
        have HC : Hid (∀ (ad : Option Addr) (c : Nat), ∃ v' w', (∀ ty, (Builtin.append_ #[23, 23] ty #[.slice (some ⟨wr.heap.size, 0, none⟩) 0 0, .slice ad 0 c]).run Try.prog (wr.alloc (.cells #[] 3)) = .ok v' w') ∧ AL w.heap.size v' [] w' ∧ Below w.heap.size w w') := fun ad c => by
          obtain ⟨v1, w1, r1, o1, g1, -⟩ := (AL.lit wr).app hW1.size ad c [] (is_nil _ _ _) (by simp)
          exact ⟨v1, w1, r1, o1.mono hszr, HBEL.out.trans ((hW1.trans g1).mono hszr)⟩
        have j1 : E.length - 1 = 0 := by omega
        have j2 : 1 ≤ E.length := by omega
        have j3 : (1 : Int) ≤ (E.length : Int) := by omega
        have j4 : E.length ≤ cE := hcE
        rcases Nat.lt_or_ge 1 cE with hc1 | hc1
        · have j5 : ¬ cE = 1 := by omega
          obtain ⟨v1, w1, r1, o1, g1⟩ := HC.out (some ⟨R, 1, none⟩) (cE - 1)
          have HO1 := hid o1
          have HB1 := hid g1
          clear hle hel hte hown hbel hp0 hE1 o1 g1 hW1 HC
          go_wp2_with (at_builtin; refine wpList_append_run rfl (.tmp 59) (.tmp 61) 23 rfl _ _ rfl rfl _ _ r1 ?_)
          go_ret2
          rw [← HVV.out, ← HOO.out, HY.out.1, HY.out.2, HT0.out]
          exact JOut.yes HO1.out HB1.out
        · obtain rfl : cE = 1 := by omega
          obtain ⟨v1, w1, r1, o1, g1⟩ := HC.out (some ⟨R, 0, none⟩) 0
          have HO1 := hid o1
          have HB1 := hid g1
          clear hle hel hte hown hbel hp0 hE1 o1 g1 hW1 HC hc1
          go_wp2_with (at_builtin; refine wpList_append_run rfl (.tmp 59) (.tmp 61) 23 rfl _ _ rfl rfl _ _ r1 ?_)
          go_ret2
          rw [← HVV.out, ← HOO.out, HY.out.1, HY.out.2, HT0.out]
          exact JOut.yes HO1.out HB1.out
      · have j0 : E.length - 1 = p.length := by omega
        have j2 : 1 ≤ E.length := by omega
        have j3 : (1 : Int) ≤ (E.length : Int) := by omega
        have j5 : ¬ cE = 1 := by omega
        have HTL : Hid (E.tail.length = p.length) := List.length_tail.trans j0
        have hD := is_drop (is_ofJ hown) 1
        rw [List.drop_one, Nat.zero_add] at hD
        obtain ⟨v1, w1, r1, o1, g1, -⟩ := (AL.lit wr).app hW1.size (some ⟨R, 1, none⟩) (cE - 1) E.tail ((hD.below hW1).mono hW1.size) (by rw [HTL.out]; simp; omega)
        have HO1 : Hid (AL w.heap.size v1 E.tail w1) := o1.mono hszr
        have HB1 : Hid (Below w.heap.size w w1) := HBEL.out.trans ((hW1.trans g1).mono hszr)
        rw [HTL.out] at r1
        clear hle hel hte hown hbel hp0 o1 g1 hW1 hD
        go_wp2_with (at_builtin; refine wpList_append_run rfl (.tmp 59) (.tmp 61) 23 rfl _ _ rfl rfl _ _ r1 ?_)
        go_ret2
        rw [← HVV.out, ← HOO.out, HY.out.1, HY.out.2]
        exact JOut.yes HO1.out HB1.out
set_option maxHeartbeats 1000000 in
theorem sElem_any (a : Option Addr) (cap : Nat) (p : List Int) (w : World) (hn : p.length ≤ 1048576) (hZ : Is w.heap.size a p w) :
    Calls Try.prog 24 #[.slice a p.length cap] w (JOut (elemV p) (elemOk p) w) := by
  cases hg : goodN p
  · rw [(elem_no1 hg).1, (elem_no1 hg).2]
    have HG := hid (l12Numbers_any a cap p w hn hZ)
    rw [hg] at HG
    go_enter Try.func24, Try.ntmps24
    go_wp2_with fail
    refine HG.out.mono ?_
    rintro en w2 ⟨rfl, hw2⟩
    rw [hw2]
    clear hw2
    go_wp2
    go_ret2
    exact JOut.no (Below.refl _ _)
  · exact sElem_good a cap p w hZ hg
end Go.Proofs.Ytipeillhafcliaa
