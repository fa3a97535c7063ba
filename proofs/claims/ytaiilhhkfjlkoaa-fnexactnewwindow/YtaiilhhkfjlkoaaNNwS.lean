/- The model's NewWindow. -/
import Derived.Test.YtaiilhhkfjlkoaaNNew
import Derived.Test.YtaiilhhkfjlkoaaNFiv
namespace Go.Proofs.Ytaiilhhkfjlkoaa
set_option maxRecDepth 100000
open Go.ChangeShapes Go.WideShapes Go.ChangeAt Go.RowKit
set_option maxHeartbeats 8000000 in
theorem snew_any (a : Option Addr) (c : Nat) (l : List ByteArray) (sz : Int) (w : World) (hn : l.length ≤ 1048576) (h : Ss w.heap.size a l w) :
    Calls Try.prog 10 #[.slice a l.length c, .int .i64 sz] w fun e w' => NewO l sz w e w' := by
  have HB := hid (boxB w (.cells #[.slice none 0 0, .int .i64 0, .slice none 0 0, .slice none 0 0, .slice none 0 0, .slice none 0 0, .int .i64 0] 27))
  have HK := hid (heap_last w (.cells #[.slice none 0 0, .int .i64 0, .slice none 0 0, .slice none 0 0, .slice none 0 0, .slice none 0 0, .int .i64 0] 27))
  have HZ : Hid (∀ v, Below w.heap.size w v → Ss v.heap.size a l v) := fun v g => (h.below g).mono g.size
  clear h
  go_enter Try.func10, Try.ntmps10
  go_wp2_with fail
  generalize w.alloc (.cells #[.slice none 0 0, .int .i64 0, .slice none 0 0, .slice none 0 0, .slice none 0 0, .slice none 0 0, .int .i64 0] 27) = W at *
  obtain ⟨⟨z0, z1, z2, z3, z4, z5, z6⟩, f0, f1, f2, f3, f4, f5, f6⟩ := box7 HK.out
  refine (l9Pieces_any a c l W hn (HZ.out _ HB.out)).mono ?_
  rintro e v ⟨rfl, hv⟩
  rw [hv]
  clear hv v
  cases hp : pcOk l
  case false =>
    have HE := hid (show newOk l sz = false by unfold newOk; rw [hp]; rfl)
    go_wp2_with fail
    have hb7 := box7 (fill7 HK.out (.slice none 0 0) (.int .i64 0) (.slice none 0 0) (.slice none 0 0) (.slice none 0 0) (.slice none 0 0) (.int .i64 0))
    obtain ⟨⟨q0, q1, q2, q3, q4, q5, q6⟩, -⟩ := hb7
    refine bodyPost_ret (v := .tuple #[.agg #[.slice none 0 0, .int .i64 0, .slice none 0 0, .slice none 0 0, .slice none 0 0, .slice none 0 0, .int .i64 0], .bool false]) (by simp [results, Try.results10, go_sem, q0, q1, q2, q3, q4, q5, q6]) rfl ?_
    exact Or.inr ⟨HE.out, rfl, fill7_below HB.out (Nat.le_refl _) _ _ _ _ _ _ _⟩
  have HP := hid hp
  clear hp
  go_wp2_with fail
  refine (show Calls Try.prog 40 #[.int .i64 sz, .int .i64 1, .int .i64 12] W (fun e w' => e = .returned (.bool (szOk sz)) ∧ w' = W) from l1In_szN sz 1 12 W).mono ?_
  rintro e v ⟨rfl, hv⟩
  rw [hv]
  clear hv v
  cases hz : szOk sz
  case false =>
    have HE := hid (show newOk l sz = false by unfold newOk; rw [hz, Bool.and_false])
    go_wp2_with fail
    have hb7 := box7 (fill7 HK.out (.slice none 0 0) (.int .i64 0) (.slice none 0 0) (.slice none 0 0) (.slice none 0 0) (.slice none 0 0) (.int .i64 0))
    obtain ⟨⟨q0, q1, q2, q3, q4, q5, q6⟩, -⟩ := hb7
    refine bodyPost_ret (v := .tuple #[.agg #[.slice none 0 0, .int .i64 0, .slice none 0 0, .slice none 0 0, .slice none 0 0, .slice none 0 0, .int .i64 0], .bool false]) (by simp [results, Try.results10, go_sem, q0, q1, q2, q3, q4, q5, q6]) rfl ?_
    exact Or.inr ⟨HE.out, rfl, fill7_below HB.out (Nat.le_refl _) _ _ _ _ _ _ _⟩
  have HOK : Hid (newOk l sz = true) := by show newOk l sz = true; unfold newOk; rw [HP.out, hz]; rfl
  clear hz
  have hl12 := (pcOk_iff.1 HP.out).1
  have HL20 := hid (pcOk_iff.1 HP.out).2
  have hmB := make_bools l.length hn
  have hmS := make_strsV l.length hn
  clear z0 f0 z1 f1 z2 f2 z3 f3 z4 f4 z5 f5 z6 f6 hmB hmS
  have hmB := make_bools l.length hn
  have hmS := make_strsV l.length hn
  have HMB := hid hmB
  have HMS := hid hmS
  have HL12 := hid hl12
  clear hmB hmS hl12
  have HG0 : Hid (Below w.heap.size w W.drew ∧ W.drew.heap[w.heap.size]? = some (.cells #[.slice none 0 0, .int .i64 0, .slice none 0 0, .slice none 0 0, .slice none 0 0, .slice none 0 0, .int .i64 0] 27)) := ⟨HB.out.drew, HK.out⟩
  go_upto_region 4 with fail
  go_cut [5] (fun s5 wc => s5 = .bool true ∧ ∃ A : Ad, wc.heap[w.heap.size]? = some (.cells #[.slice A.p l.length A.kp, .int .i64 sz, .slice A.h l.length A.kh, .slice A.l 0 A.kl, .slice A.e l.length A.ke, .slice A.s l.length A.ks, .int .i64 0] 27) ∧ WO w.heap.size wc.heap.size A (newW l sz) wc ∧ Below w.heap.size w wc)
  case first =>
    refine wp_region_any (by kernel_rfl) ?_
    clear HB HK
    refine wpAny_take (i := 1) (v := .slice a l.length c) rfl (by kernel_rfl) (by kernel_rfl) (by kernel_rfl) (fun _ _ _ h => h) (Or.inl ⟨by rfl, fun _ => by go_simp⟩) ?_
    try dsimp only [Act.put]
    refine wpAny_take (i := 3) (v := .int .i64 sz) rfl (by kernel_rfl) (by kernel_rfl) (by kernel_rfl) (fun _ _ _ h => h) (Or.inl ⟨by rfl, fun _ => by go_simp⟩) ?_
    try dsimp only [Act.put]
    refine wpAny_take (i := 4) (v := .int .i64 l.length) rfl (by kernel_rfl) (by kernel_rfl) (by kernel_rfl) (fun _ _ _ h => h) (Or.inl ⟨by rfl, fun _ => by go_simp⟩) ?_
    try dsimp only [Act.put]
    refine wpAny_take (i := 6) (v := .int .i64 l.length) rfl (by kernel_rfl) (by kernel_rfl) (by kernel_rfl) (fun _ _ _ h => h) (Or.inl ⟨by rfl, fun _ => by go_simp⟩) ?_
    try dsimp only [Act.put]
    refine wpAny_take (i := 8) (v := .int .i64 l.length) rfl (by kernel_rfl) (by kernel_rfl) (by kernel_rfl) (fun _ _ _ h => h) (Or.inl ⟨by rfl, fun _ => by go_simp⟩) ?_
    try dsimp only [Act.put]
    refine wpAny_fam5 (fun b0 b1 b2 b3 b4 => #[b0, true, b1, true, true, b2, true, b3, true, b4, false, false, false]) (fun x0 x1 x2 x3 x4 => { tmps := #[.slice a l.length c, .int .i64 sz, undef, undef, .pointer (some ⟨w.heap.size, 0, none⟩), .bool false, .int .i64 l.length, .slice a l.length c, .int .i64 l.length, .slice a l.length c, .bool true, .bool false, .bool false, .int .i64 sz, .bool true, .bool false, .bool false, undef, x0, .slice a l.length c, x1, .int .i64 sz, .int .i64 l.length, x2, .int .i64 l.length, x3, .int .i64 l.length, x4, undef], defers := [] }) (fun v => Below w.heap.size w v ∧ v.heap[w.heap.size]? = some (.cells #[.slice none 0 0, .int .i64 0, .slice none 0 0, .slice none 0 0, .slice none 0 0, .slice none 0 0, .int .i64 0] 27)) (fun v x => v.ownsRow (w.heap.size + 1) 9 1 x 0 []) (fun v x => v.ownsRow (w.heap.size + 1) 9 1 x l.length (svals l)) (fun v x => v.ownsRow (w.heap.size + 1) 4 1 x l.length (tvals (List.replicate l.length false))) (fun v x => v.ownsRow (w.heap.size + 1) 9 1 x l.length (svals (List.replicate l.length ⟨#[]⟩))) (fun v x => v.ownsRow (w.heap.size + 1) 4 1 x l.length (tvals (List.replicate l.length false))) (ownK_row _ _ _ _ _) (ownK_row _ _ _ _ _) (ownK_row _ _ _ _ _) (ownK_row _ _ _ _ _) (ownK_row _ _ _ _ _) 0 2 5 7 9 3 ?_ (fun _ _ _ _ _ => rfl) (fun _ _ _ _ _ => rfl) (fun _ _ _ _ _ => rfl) (fun _ _ _ _ _ => rfl) (fun _ _ _ _ _ => rfl) ?_ ?_ ?_ ?_ ?_ ?_ undef undef undef undef undef _ HG0.out
    · intro b0 b1 b2 b3 b4 hb hc
      cases b0 <;> cases b1 <;> cases b2 <;> cases b3 <;> cases b4 <;> first | (exact absurd hb (by decide)) | (exact absurd hc (by decide)) | (exact ⟨by kernel_rfl, by kernel_rfl⟩)
    · intro x0 x1 x2 x3 x4 v hG
      have hlt := kbox hG.2
      have hrow : (v.alloc (.cells #[] 9)).ownsRow (w.heap.size + 1) 9 1 (.slice (some ⟨v.heap.size, 0, none⟩) 0 0) 0 [] := World.ownsRow_made v (base := w.heap.size + 1) (e := 9) (size := 1) #[] 0 hlt (by unfold maxLen; omega) rfl
      have gA := boxB v (.cells #[] 9)
      have hG2 := up1 (p := .cells #[] 9) hG.2
      have hG1 := belA (o := .cells #[] 9) hG.1 (Nat.le_refl _)
      refine wpOp_step rfl (fun K hK => ?_)
      have HK9 := hid hK
      clear hK
      rw [if_pos (by rfl)]
      go_simp
      exact HK9.out _ _ ⟨_, rfl, gA, ⟨hG1, hG2⟩, hrow, fun k hk => by have h9 : some v.heap.size = some k := hk; injection h9 with h8; omega⟩
    · intro x0 x1 x2 x3 x4 v hG hP0
      have hlt := kbox hG.2
      obtain ⟨y, v', r1, o1, g1, nb⟩ := app_str v (w.heap.size + 1) x0 0 [] hP0 a c l (HZ.out v hG.1) (by have := HL12.out; omega) hlt
      rw [Nat.zero_add, List.nil_append] at o1
      have hbl : Below (w.heap.size + 1) v v' := below_of_grown g1 hlt (fun k hk => (hP0.lt k hk).1)
      refine wpOp_step rfl (fun K hK => ?_)
      refine step_append_run rfl (.tmp 18) (.tmp 19) 22 rfl _ _ rfl rfl _ _ r1 ?_
      refine hK _ _ ⟨y, rfl, ⟨g1.size, fun k hk hne => g1.block k hk (fun e => hne e.symm)⟩, ⟨hG.1.trans (hbl.mono (Nat.le_succ _)), (hbl.block _ (Nat.lt_succ_self _)).trans hG.2⟩, o1, fun k hk => ?_⟩
      rcases nb with e | e
      · exact Or.inr (by rw [← e]; exact hk)
      · rw [e] at hk; injection hk with h9; exact Or.inl (by omega)
    · intro x0 x1 x2 x3 x4 v hG
      have hlt := kbox hG.2
      have hrow := made_rowB v (w.heap.size + 1) l.length hlt hn
      have hm9 := HMB.out v
      have gA := boxB v (.cells (madeCells (Value.bool false).cells l.length) 4)
      have hG2 := up1 (p := .cells (madeCells (Value.bool false).cells l.length) 4) hG.2
      have hG1 := belA (o := .cells (madeCells (Value.bool false).cells l.length) 4) hG.1 (Nat.le_refl _)
      generalize madeCells (Value.bool false).cells l.length = MM at *
      refine wpOp_step rfl (fun K hK => ?_)
      have HK9 := hid hK
      clear hK
      rw [if_pos (by rfl)]
      go_simp
      exact HK9.out _ _ ⟨_, rfl, gA, ⟨hG1, hG2⟩, hrow, fun k hk => by have h9 : some v.heap.size = some k := hk; injection h9 with h8; omega⟩
    · intro x0 x1 x2 x3 x4 v hG
      have hlt := kbox hG.2
      have hrow := made_rowS v (w.heap.size + 1) l.length hlt hn
      have hm9 := HMS.out v
      have gA := boxB v (.cells (madeCells (Value.string ⟨#[]⟩).cells l.length) 9)
      have hG2 := up1 (p := .cells (madeCells (Value.string ⟨#[]⟩).cells l.length) 9) hG.2
      have hG1 := belA (o := .cells (madeCells (Value.string ⟨#[]⟩).cells l.length) 9) hG.1 (Nat.le_refl _)
      generalize madeCells (Value.string ⟨#[]⟩).cells l.length = MM at *
      refine wpOp_step rfl (fun K hK => ?_)
      have HK9 := hid hK
      clear hK
      rw [if_pos (by rfl)]
      go_simp
      exact HK9.out _ _ ⟨_, rfl, gA, ⟨hG1, hG2⟩, hrow, fun k hk => by have h9 : some v.heap.size = some k := hk; injection h9 with h8; omega⟩
    · intro x0 x1 x2 x3 x4 v hG
      have hlt := kbox hG.2
      have hrow := made_rowB v (w.heap.size + 1) l.length hlt hn
      have hm9 := HMB.out v
      have gA := boxB v (.cells (madeCells (Value.bool false).cells l.length) 4)
      have hG2 := up1 (p := .cells (madeCells (Value.bool false).cells l.length) 4) hG.2
      have hG1 := belA (o := .cells (madeCells (Value.bool false).cells l.length) 4) hG.1 (Nat.le_refl _)
      generalize madeCells (Value.bool false).cells l.length = MM at *
      refine wpOp_step rfl (fun K hK => ?_)
      have HK9 := hid hK
      clear hK
      rw [if_pos (by rfl)]
      go_simp
      exact HK9.out _ _ ⟨_, rfl, gA, ⟨hG1, hG2⟩, hrow, fun k hk => by have h9 : some v.heap.size = some k := hk; injection h9 with h8; omega⟩
    · intro x0 x1 x2 x3 x4 v hG r1 r2 r3 r4 d12 d13 d14 d23 d24 d34
      obtain ⟨A, rfl, rfl, rfl, rfl, e5, e6, hW⟩ := rows_new (sz := sz) r1 r2 r3 r4 d12 d13 d14 d23 d24 d34
      have hO := fill7_out v w.heap.size (.slice A.p l.length A.kp) (.int .i64 sz) (.slice A.h l.length A.kh) (.slice none 0 0) (.slice A.e l.length A.ke) (.slice A.s l.length A.ks) (.int .i64 0)
      have hF := fill7 hG.2 (.slice A.p l.length A.kp) (.int .i64 sz) (.slice A.h l.length A.kh) (.slice none 0 0) (.slice A.e l.length A.ke) (.slice A.s l.length A.ks) (.int .i64 0)
      have hBF := fill7_below hG.1 (Nat.le_refl _) (.slice A.p l.length A.kp) (.int .i64 sz) (.slice A.h l.length A.kh) (.slice none 0 0) (.slice A.e l.length A.ke) (.slice A.s l.length A.ks) (.int .i64 0)
      have hW2 := (hW.out hO (Or.inr (Nat.le_refl _))).wide (Nat.le_succ _) hO.size
      have HW2 := hid hW2
      have HFF := hid hF
      have HBF := hid hBF
      obtain ⟨⟨z0, z1, z2, z3, z4, z5, z6⟩, f0, f1, f2, f3, f4, f5, f6⟩ := box7 hG.2
      have HE := hid (And.intro e5 e6)
      clear r1 r2 r3 r4 d12 d13 d14 d23 d24 d34 hW hO hF hBF hW2 hG e5 e6
      refine wpAny_take (i := 10) (v := .agg #[.slice A.p l.length A.kp, .int .i64 sz, .slice A.h l.length A.kh, .slice none 0 0, .slice A.e l.length A.ke, .slice A.s l.length A.ks, .int .i64 0]) rfl (by kernel_rfl) (by kernel_rfl) (by kernel_rfl) (fun _ _ _ h => h) (Or.inl ⟨by rfl, fun _ => by go_simp⟩) ?_
      try dsimp only [Act.put]
      refine wpAny_ready (rs := [11]) (by kernel_rfl) (by simp) (AllReady.cons rfl (fun K hK => ?_) AllReady.nil)
      have HK9 := hid hK
      clear hK
      rw [if_pos (by rfl)]
      go_simp
      refine HK9.out _ _ ?_
      clear HK9 K
      try dsimp only [Act.put]
      generalize (((((((v.setCell ⟨w.heap.size, 0, none⟩ (.slice A.p l.length A.kp)).setCell ⟨w.heap.size, 1, none⟩ (.int .i64 sz)).setCell ⟨w.heap.size, 2, none⟩ (.slice A.h l.length A.kh)).setCell ⟨w.heap.size, 3, none⟩ (.slice none 0 0)).setCell ⟨w.heap.size, 4, none⟩ (.slice A.e l.length A.ke)).setCell ⟨w.heap.size, 5, none⟩ (.slice A.s l.length A.ks)).setCell ⟨w.heap.size, 6, none⟩ (.int .i64 0)) = F9 at *
      refine wpAny_ready (rs := [12]) (by kernel_rfl) (by simp) (AllReady.cons rfl (fun K hK => ?_) AllReady.nil)
      have HK9 := hid hK
      clear hK
      rw [if_pos (by rfl)]
      go_simp
      refine HK9.out _ _ ?_
      clear HK9 K
      try dsimp only [Act.put]
      refine wpAny_done (by kernel_rfl) ?_ _
      go_wp2_with fail
      go_meet
      case rel =>
        obtain ⟨e5, e6⟩ := HE.out
        refine ⟨rfl, A, ?_, HW2.out, HBF.out⟩
        rw [HFF.out, e5, e6]
  case rest =>
    obtain ⟨rfl, A, hK, hO, hB⟩ := hcut
    have HO := hid hO
    have HBF := hid hB
    obtain ⟨⟨q0, q1, q2, q3, q4, q5, q6⟩, -⟩ := box7 hK
    clear hK hO hB
    go_wp2_with fail
    refine bodyPost_ret (v := .tuple #[.agg #[.slice A.p l.length A.kp, .int .i64 sz, .slice A.h l.length A.kh, .slice A.l 0 A.kl, .slice A.e l.length A.ke, .slice A.s l.length A.ks, .int .i64 0], .bool true]) (by simp [results, Try.results10, go_sem, q0, q1, q2, q3, q4, q5, q6]) rfl ?_
    refine Or.inl ⟨HOK.out, A, ?_, HO.out, HBF.out⟩
    show Ending.returned (.tuple #[.agg #[.slice A.p l.length A.kp, .int .i64 sz, .slice A.h l.length A.kh, .slice A.l 0 A.kl, .slice A.e l.length A.ke, .slice A.s l.length A.ks, .int .i64 0], .bool true]) = Ending.returned (.tuple #[.agg #[.slice A.p l.length A.kp, .int .i64 sz, .slice A.h (List.replicate l.length false).length A.kh, .slice A.l 0 A.kl, .slice A.e (List.replicate l.length (⟨#[]⟩ : ByteArray)).length A.ke, .slice A.s (List.replicate l.length false).length A.ks, .int .i64 0], .bool true])
    rw [List.length_replicate, List.length_replicate]
end Go.Proofs.Ytaiilhhkfjlkoaa
