/- The program's recoveredFrom. -/
import Derived.Test.YtgompioaknfjgaaUwBw
import Derived.Test.YtgompioaknfjgaaUwRp
import Derived.Test.YtgompioaknfjgaaUwRW
import Derived.Test.YtgompioaknfjgaaUwTm
import Derived.Test.YtgompioaknfjgaaUwUd
namespace Go.Proofs.Ytgompioaknfjgaa
set_option maxRecDepth 100000
open Go Go.ChangeShapes Go.WideShapes Go.ChangeAt Go.RowKit
/-- what stands while cells are taken back: the answer's box, the box of the cells, the cells -/
structure Rx (w : World) (R c : Nat) (T : Nat) (cs : List Int) (wr : World) : Prop where
  bel : Below w.heap.size w wr
  z : wr.heap[w.heap.size]? = some (.cells #[.slice none 0 0, .slice none 0 0, .slice none 0 0, .int .i64 0, .slice none 0 0] 25)
  b : wr.heap[T]? = some (.cells #[.slice (some ⟨R, 0, none⟩) 6 c] 22)
  rt : R < T
  al : AL (w.heap.size + 1) (.slice (some ⟨R, 0, none⟩) 6 c) cs wr
  len : cs.length = 6
theorem Rx.low {w : World} {R c T : Nat} {cs : List Int} {wr : World} (h : Rx w R c T cs wr) : w.heap.size + 1 ≤ R ∧ T < wr.heap.size := ⟨(al_cell h.al).2.1, kbox h.b⟩
theorem Rx.on {w : World} {R c T : Nat} {cs : List Int} {wr w' : World} (h : Rx w R c T cs wr) (g : Below wr.heap.size wr w') : Rx w R c T cs w' := by
  have hs := h.low
  have hr := h.rt
  exact ⟨h.bel.trans (g.mono h.bel.size), (g.block _ (by omega)).trans h.z, (g.block _ (by omega)).trans h.b, h.rt, h.al.below g, h.len⟩
theorem Rx.set {w : World} {R c T : Nat} {cs : List Int} {wr : World} (h : Rx w R c T cs wr) (k : Nat) (x : Int) : Rx w R c T (cs.set k x) (wr.setCell ⟨R, k, none⟩ (.int .i64 x)) := by
  have hs := h.low
  have hr := h.rt
  exact ⟨setB h.bel _ _ (by omega) _, (keepB _ _ _ _ _ (by omega)).trans h.z, (keepB _ _ _ _ _ (by omega)).trans h.b, hr, setI h.al k x, by rw [List.length_set]; exact h.len⟩
theorem Rx.grown {w : World} {R c T N : Nat} {cs : List Int} {X Y : World} {row : Option Nat} (h : Rx w R c T cs X) (hN : w.heap.size ≤ N) (hg : X.grownBy Y row) (hr : ∀ r, row = some r → N ≤ r ∧ ∃ o, X.heap[r]? = some o ∧ o.isCells = false) : Rx w R c T cs Y := by
  have hne : ∀ {B : Nat} {o : Obj}, X.heap[B]? = some o → o.isCells = true → Y.heap[B]? = some o := fun hb hc => (hg.block _ (Array.getElem?_eq_some_iff.1 hb).1 (fun e => by obtain ⟨_, o', g1, g2⟩ := hr _ e.symm; rw [hb] at g1; cases g1; rw [hc] at g2; cases g2)).trans hb
  refine ⟨h.bel.grown hg h.bel.size (fun k e => Nat.le_trans hN (hr _ e).1), hne h.z rfl, hne h.b rfl, h.rt, rw_keep h.al (fun k hk => ?_), h.len⟩
  have e : some R = some k := hk
  injection e with e
  subst e
  refine hg.block _ (by have := h.low; have := h.rt; omega) (fun e => ?_)
  obtain ⟨_, o', g1, g2⟩ := hr _ e.symm
  have h9 : X.ownsRow (w.heap.size + 1) 3 1 (.slice (some ⟨R, 0, none⟩) 6 c) cs.length (ivals cs) := h.al
  obtain ⟨hl, ⟨e, _⟩ | ⟨g, cap, cur, e, h1, hgg, h2, h3, h4, h5⟩⟩ := h9
  · cases e
  · injection e with e1 e2 e3
    injection e1 with e1
    injection e1 with e1 _ _
    subst e1
    rw [hgg] at g1; cases g1; cases g2
set_option maxHeartbeats 2000000 in
/-- one set taken back -/
theorem recov1_any (w : World) (R c T : Nat) (cs : List Int) (p0 p1 : Int) (m : Nat) (p3 p4 : Int) (V : World) (h : Rx w R c T cs V) (hm : m < 6) :
    Calls Try.prog 80 #[.agg #[.int .i64 p0, .int .i64 p1, .int .i64 (m : Int), .int .i64 p3, .int .i64 p4], .pointer (some ⟨T, 0, none⟩)] V fun e V' => (∃ v, e = .returned v) ∧ Rx w R c T (cs.set m p3) V' ∧ OutP (fun b => b = R) V V' := by
  have hb := boxB V (.cells #[.int .i64 p0, .int .i64 p1, .int .i64 (m : Int), .int .i64 p3, .int .i64 p4] 67)
  have hk := heap_last V (.cells #[.int .i64 p0, .int .i64 p1, .int .i64 (m : Int), .int .i64 p3, .int .i64 p4] 67)
  have HO := hid (OutP.on (P := fun b => b = R) hb)
  have HR := hid (h.on hb)
  have HK := hid hk
  clear h hb hk
  go_enter Try.func80, Try.ntmps80
  go_upto_region 1 with fail
  generalize V.alloc (.cells #[.int .i64 p0, .int .i64 p1, .int .i64 (m : Int), .int .i64 p3, .int .i64 p4] 67) = V2 at *
  have x2 := box_cell HK.out 2
  have x3 := box_cell HK.out 3
  have y0 := box_cell HR.out.b 0
  obtain ⟨u, hu⟩ := (al_cell HR.out.al).2.2.1 m (by rw [HR.out.len]; exact hm)
  have hfr := (al_cell HR.out.al).2.2.2 m
  have HR3 := hid (HR.out.set m p3)
  have HO3 := hid (HO.out.trans (OutP.set V2 R m (.int .i64 p3) rfl))
  go_wp2_with fail
  go_end0
  exact ⟨⟨_, rfl⟩, HR3.out, HO3.out⟩
set_option maxHeartbeats 8000000 in
theorem irec_any (d l : Option Addr) (kd kl : Nat) (dk : List Int) (lg : List Nt) (w : World) (hN : lg.all noteB = true) (hD : dk.length = 6) (h60 : lg.length ≤ 60) (hd : Is w.heap.size d dk w) (hl : Nts w.heap.size l lg w) :
    Calls Try.prog 61 #[.slice d dk.length kd, .slice l lg.length kl] w fun e w' => ∃ p q cp cq : Nat, e = .returned (.agg #[.slice (some ⟨p, 0, none⟩) 6 cp, .slice (some ⟨q, 0, none⟩) 6 cq, .slice none 0 0, .int .i64 0, .slice none 0 0]) ∧ AL w.heap.size (.slice (some ⟨p, 0, none⟩) 6 cp) (recL dk lg) w' ∧ AL w.heap.size (.slice (some ⟨q, 0, none⟩) 6 cq) (recL dk lg) w' ∧ p ≠ q ∧ (recL dk lg).length = 6 ∧ Below w.heap.size w w' := by
  have hzb := boxB w (.cells #[.slice none 0 0, .slice none 0 0, .slice none 0 0, .int .i64 0, .slice none 0 0] 25)
  have hzz : (w.alloc (.cells #[.slice none 0 0, .slice none 0 0, .slice none 0 0, .int .i64 0, .slice none 0 0] 25)).heap[w.heap.size]? = some (.cells #[.slice none 0 0, .slice none 0 0, .slice none 0 0, .int .i64 0, .slice none 0 0] 25) := heap_last w (.cells #[.slice none 0 0, .slice none 0 0, .slice none 0 0, .int .i64 0, .slice none 0 0] 25)
  have hzs : (w.alloc (.cells #[.slice none 0 0, .slice none 0 0, .slice none 0 0, .int .i64 0, .slice none 0 0] 25)).heap.size = w.heap.size + 1 := heap_size _ _
  obtain ⟨W, hW⟩ : ∃ W, W = w.alloc (.cells #[.slice none 0 0, .slice none 0 0, .slice none 0 0, .int .i64 0, .slice none 0 0] 25) := ⟨_, rfl⟩
  rw [← hW] at hzb hzz hzs
  have HL : Hid (∀ v, Below w.heap.size w v → Nts v.heap.size l lg v) := fun v g => (hl.below g).mono g.size
  have hdk : Is W.heap.size d dk W := (hd.below hzb).mono hzb.size
  obtain ⟨v1, w1, r1, o1, g1, -⟩ := (AL.nil W.heap.size W).app (Nat.le_refl _) d kd dk hdk (by simp; omega)
  rw [List.nil_append] at o1
  obtain ⟨e, h0⟩ | ⟨R, c, e, hc, hR⟩ := o1.form
  · rw [h0] at hD; cases hD
  rw [hD] at e
  subst e
  have hbx := boxB w1 (.cells #[.slice (some ⟨R, 0, none⟩) 6 c] 22)
  have HT : Hid ((w1.alloc (.cells #[.slice (some ⟨R, 0, none⟩) 6 c] 22)).heap[w1.heap.size]? = some (.cells #[.slice (some ⟨R, 0, none⟩) 6 c] 22)) := heap_last w1 (.cells #[.slice (some ⟨R, 0, none⟩) 6 c] 22)
  have hB1 : Below w.heap.size w w1 := hzb.trans (g1.mono hzb.size)
  have HRX : Hid (Rx w R c w1.heap.size dk (w1.alloc (.cells #[.slice (some ⟨R, 0, none⟩) 6 c] 22))) :=
    ⟨hB1.trans (hbx.mono hB1.size), (hbx.block _ (by have := g1.size; omega)).trans ((g1.block _ (by omega)).trans hzz), HT.out, (al_cell o1).1, by rw [← hzs]; exact o1.below hbx, hD⟩
  have HTS : Hid (w1.heap.size < (w1.alloc (.cells #[.slice (some ⟨R, 0, none⟩) 6 c] 22)).heap.size) := by show _ < _; simp
  have HNT := hid hN
  have HRF : Hid (redoF dk lg = redoF dk (lg.drop 0)) := rfl
  have hWl : W.heap.size ≤ w1.heap.size := g1.size
  clear hzb hzz hdk o1 g1 hc hR hbx hB1 hd hl hN hD HT
  go_enter Try.func61, Try.ntmps61
  go_upto_region 1 with fail
  rw [← hW]
  clear hW
  go_upto_region 2 with (at_builtin; refine wpList_append_run rfl _ _ 22 rfl _ _ rfl rfl _ _ r1 ?_)
  obtain ⟨T, hT⟩ : ∃ T, T = w1.heap.size := ⟨_, rfl⟩
  rw [← hT] at HRX HTS ⊢
  generalize w1.alloc (.cells #[.slice (some ⟨R, 0, none⟩) 6 c] 22) = w2 at *
  clear r1 hT hWl
  go_wp2_with fail
  go_loopw [12] (fun i wr => ∃ (k : Nat) (cs : List Int), k ≤ lg.length ∧ i = .int .i64 k ∧ Rx w R c T cs wr ∧ redoF cs (lg.drop k) = redoF dk lg) (fun i _ => lg.length - (intOf i).toNat)
  case atStart => exact ⟨0, _, Nat.zero_le _, rfl, HRX.out, rfl⟩
  case round =>
    obtain ⟨k, cs, hk, rfl, hrc, hre⟩ := hrel
    have HR := hid hrc
    have HE := hid hre
    clear hrc hre
    by_cases hlt : k < lg.length
    · obtain ⟨b, off, eb, hb, hc⟩ := (HL.out wr HR.out.bel).cell (by omega)
      obtain ⟨y0, y1, y2, y3, y4⟩ := hc k hlt
      have hnb := all_at HNT.out k hlt
      have HCL : Hid (lg[k].kd = 2 → 0 ≤ lg[k].cl ∧ lg[k].cl ≤ 5) := noteB_cell hnb
      have HS : Hid (redoF (if lg[k].kd = 2 then cs.set lg[k].cl.toNat lg[k].is else cs) (lg.drop (k + 1)) = redoF dk lg) := by
        show redoF _ _ = _
        rw [← redoF_step cs lg k hlt]; exact HE.out
      rw [eb]
      clear hc eb hnb HE
      generalize lg[k].kd = p0 at *
      generalize lg[k].wh = p1 at *
      generalize lg[k].cl = p2 at *
      generalize lg[k].ws = p3 at *
      generalize lg[k].is = p4 at *
      have HR2 := hid (HR.out.on (boxB wr (.cells #[.int .i64 p0, .int .i64 p1, .int .i64 p2, .int .i64 p3, .int .i64 p4] 67)))
      have HL2 := hid (heap_last wr (.cells #[.int .i64 p0, .int .i64 p1, .int .i64 p2, .int .i64 p3, .int .i64 p4] 67))
      go_upto_region 5 with fail
      generalize wr.alloc (.cells #[.int .i64 p0, .int .i64 p1, .int .i64 p2, .int .i64 p3, .int .i64 p4] 67) = W2 at *
      have z0 := box_cell HL2.out 0
      have z2 := box_cell HL2.out 2
      have z4 := box_cell HL2.out 4
      have t0 := box_cell HR2.out.b 0
      clear y0 y1 y2 y3 y4
      by_cases q2 : p0 = 2
      · have g3 : (p0 == 2) = true := beq_iff_eq.2 q2
        obtain ⟨c0, c5⟩ := HCL.out q2
        obtain ⟨m, rfl⟩ : ∃ m : Nat, p2 = (m : Int) := ⟨p2.toNat, by omega⟩
        have hm : m < 6 := by omega
        have HS2 : Hid (redoF (cs.set m p4) (lg.drop (k + 1)) = redoF dk lg) := by
          show redoF _ _ = _
          rw [← HS.out, if_pos q2, Int.toNat_natCast]
        obtain ⟨u, hu⟩ := (al_cell HR2.out.al).2.2.1 m (by rw [HR2.out.len]; exact hm)
        have hfr := (al_cell HR2.out.al).2.2.2 m
        have HR3 := hid (HR2.out.set m p4)
        clear q2 HS HCL c0 c5
        go_wp2_with fail
        go_roundw
        case rel => exact ⟨k + 1, _, by omega, by go_num, HR3.out, HS2.out⟩
        case measure => simp [intOf]; omega
      · have g3 : (p0 == 2) = false := beq_eq_false_iff_ne.2 q2
        have HS2 : Hid (redoF cs (lg.drop (k + 1)) = redoF dk lg) := by
          show redoF _ _ = _
          rw [← HS.out, if_neg q2]
        clear q2 HS HCL
        go_wp2_with fail
        go_roundw
        case rel => exact ⟨k + 1, _, by omega, by go_num, HR2.out, HS2.out⟩
        case measure => simp [intOf]; omega
    obtain rfl : k = lg.length := by omega
    have HCS : Hid (cs = redoF dk lg) := by show cs = _; rw [← HE.out, List.drop_length]; rfl
    clear HE hlt hk HRX HRF
    have HOP := hid (openIn_any l kl lg wr (by omega) HNT.out (HL.out wr HR.out.bel))
    go_wp2_with fail
    refine HOP.out.mono ?_
    rintro e w3 ⟨vq, rfl, hq, b3⟩
    obtain ⟨q, cq, rfl, hqo, hqc⟩ := hq.own
    have HR3 := hid (HR.out.on b3)
    have HQ3 := hid hqo
    have hRl := HR.out.low
    have hRt := HR.out.rt
    have hol : (openL lg).length ≤ 1048576 := Nat.le_trans (openK_len lg 9) (by decide)
    have hs3 := b3.size
    have HBO := hid (backOver_any l q kl cq lg (openL lg) 80 #[.pointer (some ⟨T, 0, none⟩)] w3 (by omega) hol (enters_of Try.func80 (by kernel_rfl) rfl)
      (fun pre V => Rx w R c T (pre.foldl (undS lg (openL lg)) cs) V)
      (fun V => Below w.heap.size w V ∧ OwnI wr.heap.size w3.heap.size q (openL lg) V)
      (fun pre V V' h g => h.on g)
      (fun pre X Y row h hg hr => h.grown (by have := HR3.out.bel.size; omega) hg (fun r e => ⟨(hr r e).1, (hr r e).2⟩))
      (fun V V' h g => ⟨h.1.trans (g.mono h.1.size), h.2.below g⟩)
      (fun _ X Y row h hg hr => ⟨h.1.grown hg h.1.size (fun k e => by have := (hr k e).1; have := HR3.out.bel.size; omega), by
        rcases h.2 with h2 | ⟨Q, h1, h3, e, hrow⟩
        · exact Or.inl h2
        · exact Or.inr ⟨Q, h1, h3, e, hrow.same hg.size (hg.block _ hrow.lt (fun e' => by have := (hr _ e'.symm).1; omega))⟩⟩)
      (fun V h => ⟨HL.out V h.1, h.2.is⟩)
      (fun pre x V h1 h2 hle hcb => by
        have hk2 : lg[x.1].kd = 2 := by
          have hcb' := hcb
          unfold condB at hcb'
          rw [Bool.and_eq_true] at hcb'
          exact of_decide_eq_true hcb'.1
        obtain ⟨c0, c5⟩ := noteB_cell (all_at HNT.out x.1 x.2) hk2
        obtain ⟨m, hm⟩ : ∃ m : Nat, lg[x.1].cl = (m : Int) := ⟨lg[x.1].cl.toNat, by omega⟩
        have hv : nv lg x = .agg #[.int .i64 lg[x.1].kd, .int .i64 lg[x.1].wh, .int .i64 (m : Int), .int .i64 lg[x.1].ws, .int .i64 lg[x.1].is] := by unfold nv; rw [hm]
        have hst : (pre ++ [x]).foldl (undS lg (openL lg)) cs = (pre.foldl (undS lg (openL lg)) cs).set m lg[x.1].ws := by
          rw [List.foldl_append]
          show undS lg (openL lg) _ x = _
          unfold undS
          rw [if_pos hcb, hm, Int.toNat_natCast]
        rw [hv]
        refine (recov1_any w R c T _ _ _ m _ _ V h1 (by omega)).mono ?_
        rintro e V' ⟨hv', h3, h4⟩
        refine ⟨hv', by rw [hst]; exact h3, ⟨h3.bel, ?_⟩, h4.wide (fun b hb => by have hb' : b = R := hb; omega)⟩
        rcases h2.2 with h5 | ⟨Q, h6, h7, e7, hrow⟩
        · exact Or.inl h5
        · exact Or.inr ⟨Q, h6, h7, e7, hrow.same h4.size (h4.block _ hrow.lt (fun e' => by have e'' : Q = R := e'; omega))⟩)
      (fun pre x V h1 hcb => by
        have hst : (pre ++ [x]).foldl (undS lg (openL lg)) cs = pre.foldl (undS lg (openL lg)) cs := by
          rw [List.foldl_append]
          show undS lg (openL lg) _ x = _
          unfold undS
          rw [hcb]; rfl
        show Rx w R c T ((pre ++ [x]).foldl (undS lg (openL lg)) cs) V
        rw [hst]; exact h1)
      HR3.out ⟨HR3.out.bel, hqo⟩)
    have HRL : Hid ((bkT lg lg.length).foldl (undS lg (openL lg)) cs = recL dk lg) := by
      show _ = _
      rw [und_all lg HNT.out, HCS.out]; rfl
    rw [HRL.out] at HBO
    clear HOP b3 hq hqo hqc HQ3 HRL HCS HR hs3 hRl hRt
    generalize openL lg = OP at *
    generalize hRL : recL dk lg = RL at *
    have HRE : Hid (recL dk lg = RL) := hRL
    clear hRL
    go_wp2_with fail
    refine HBO.out.mono ?_
    rintro e w4 ⟨⟨vv, rfl⟩, h4, -, -⟩
    have H4 := hid h4
    clear HBO h4
    have H4d : Hid (Rx w R c T RL w4.drew) := by
      have hb : Below w4.heap.size w4 w4.drew := (Below.refl _ _).drew
      exact H4.out.on hb
    go_upto_region 9 with fail
    obtain ⟨b5, c6, e5, ho5, hc5⟩ := H4d.out.al.own
    have hlen := H4d.out.len
    have HIS : Is w4.drew.heap.size (some ⟨R, 0, none⟩) RL w4.drew := by
      injection e5 with e5 _ _
      rw [e5]; exact ho5.is
    obtain ⟨v5, w5, r5, o5, g5, -⟩ := (AL.nil w4.drew.heap.size w4.drew).app (Nat.le_refl _) (some ⟨R, 0, none⟩) c RL HIS (by simp; omega)
    rw [List.nil_append] at o5
    obtain ⟨e, h0⟩ | ⟨R5, k5, e, hk5, hR5⟩ := o5.form
    · rw [h0] at hlen; cases hlen
    rw [hlen] at e r5
    subst e
    have HR5 := hid (H4d.out.on g5)
    have HO5 := hid o5
    have hlow := H4d.out.low
    have hrt := H4d.out.rt
    have hne : R ≠ R5 := by omega
    have HLN := hid hlen
    have t4 : w4.drew.cell? ⟨T, 0, none⟩ = some (.slice (some ⟨R, 0, none⟩) 6 c) := box_cell H4d.out.b 0
    have t5 : w5.cell? ⟨T, 0, none⟩ = some (.slice (some ⟨R, 0, none⟩) 6 c) := box_cell HR5.out.b 0
    obtain ⟨⟨a0, a1, a2, a3, a4⟩, f0, f1, f2, f3, f4⟩ := Uwbox HR5.out.z
    have hfill := Uwfill HR5.out.z (.slice (some ⟨R, 0, none⟩) 6 c) (.slice (some ⟨R5, 0, none⟩) 6 k5) (.slice none 0 0) (.int .i64 0) (.slice none 0 0)
    have HBF := hid (Uwfill_below HR5.out.bel (Nat.le_refl _) (.slice (some ⟨R, 0, none⟩) 6 c) (.slice (some ⟨R5, 0, none⟩) 6 k5) (.slice none 0 0) (.int .i64 0) (.slice none 0 0))
    have hS1 : w.heap.size < w.heap.size + 1 := Nat.lt_succ_self _
    have hS5 : w.heap.size < w4.drew.heap.size := by omega
    have HA1 := hid (al_set (m := 4) (x := .slice none 0 0) (al_set (m := 3) (x := .int .i64 0) (al_set (m := 2) (x := .slice none 0 0) (al_set (m := 1) (x := .slice (some ⟨R5, 0, none⟩) 6 k5) (al_set (m := 0) (x := .slice (some ⟨R, 0, none⟩) 6 c) HR5.out.al hS1) hS1) hS1) hS1) hS1)
    have HA2 := hid (al_set (m := 4) (x := .slice none 0 0) (al_set (m := 3) (x := .int .i64 0) (al_set (m := 2) (x := .slice none 0 0) (al_set (m := 1) (x := .slice (some ⟨R5, 0, none⟩) 6 k5) (al_set (m := 0) (x := .slice (some ⟨R, 0, none⟩) 6 c) HO5.out hS5) hS5) hS5) hS5) hS5)
    have HF := hid hfill
    have hTz : T ≠ w.heap.size := by omega
    have HS5 := hid hS5
    have t6 : (((((w5.setCell ⟨w.heap.size, 0, none⟩ (.slice (some ⟨R, 0, none⟩) 6 c)).setCell ⟨w.heap.size, 1, none⟩ (.slice (some ⟨R5, 0, none⟩) 6 k5)).setCell ⟨w.heap.size, 2, none⟩ (.slice none 0 0)).setCell ⟨w.heap.size, 3, none⟩ (.int .i64 0)).setCell ⟨w.heap.size, 4, none⟩ (.slice none 0 0)).cell? ⟨T, 0, none⟩ = some (.slice (some ⟨R, 0, none⟩) 6 c) :=
      box_cell ((keepB _ _ _ _ _ hTz).trans ((keepB _ _ _ _ _ hTz).trans ((keepB _ _ _ _ _ hTz).trans ((keepB _ _ _ _ _ hTz).trans ((keepB _ _ _ _ _ hTz).trans HR5.out.b))))) 0
    clear e5 ho5 hc5 HIS o5 g5 hk5 hR5 hlow hrt hfill hS1 hS5 hTz H4d hlen
    go_region_held_law (fun v => v.cell? ⟨T, 0, none⟩ = some (.slice (some ⟨R, 0, none⟩) 6 c)) (first | exact (by with_reducible assumption)) (first | (refine step_append_runU rfl _ _ 22 rfl _ _ rfl rfl _ _ r5 ?_))
    all_goals
      obtain ⟨⟨q0, q1, q2, q3, q4⟩, -⟩ := Uwbox HF.out
      go_wp2_with fail
      refine bodyPost_ret (v := .agg #[.slice (some ⟨R, 0, none⟩) 6 c, .slice (some ⟨R5, 0, none⟩) 6 k5, .slice none 0 0, .int .i64 0, .slice none 0 0]) (by simp [results, Try.results61, go_sem, q0, q1, q2, q3, q4]) rfl ?_
      exact ⟨R, R5, c, k5, rfl, by rw [HRE.out]; exact HA1.out.mono (Nat.le_succ _), by rw [HRE.out]; exact HA2.out.mono (Nat.le_of_lt HS5.out), hne, by rw [HRE.out]; exact HLN.out, HBF.out⟩
end Go.Proofs.Ytgompioaknfjgaa
