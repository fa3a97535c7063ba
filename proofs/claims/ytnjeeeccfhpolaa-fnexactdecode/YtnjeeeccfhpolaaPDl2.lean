/- One packet is deleted from a row of one's own. -/
import Derived.Test.YtnjeeeccfhpolaaPDg
import Derived.Deep.RegionHeldLaw
namespace Go.Proofs.Ytnjeeeccfhpolaa
set_option maxRecDepth 100000
open Go Go.ChangeShapes Go.WideShapes Go.ChangeAt Go.RowKit
theorem step_append_run {P : Program} {ops : Array Oper} {o : Oper} {a : Act} {w : World} {K : Act → World → Prop} {Q : Exit → Act → World → Prop} {E : Prop}
    (hg : o.guard = none) (s x : Operand) (t : TypeId) (hop : o.op = Op.call { callee := Callee.builtin Builtin.append, args := #[s, x], argTypes := #[t, t] })
    (v y : Value) (hs : a.eval s = v) (hx : a.eval x = y) (v' : Value) (w' : World) (hrun : ∀ ty, (Builtin.append_ #[t, t] ty #[v, y]).run P w = .ok v' w') (hK : K (a.put o.dst v') w') :
    if Region.wanted o (yielded ops a.tmps) = true then Oper.wp P o a w K Q else E := by
  have hw : Region.wanted o (yielded ops a.tmps) = true := by simp [Region.wanted, hg]
  rw [if_pos hw]
  unfold Oper.wp
  simp [execOp, hop, resolve, invoke, builtin, hs, hx, hrun, Result.andThen]
  exact hK
theorem zeroPkV (w : World) : (zeroValue 28).run Try.prog w = .ok (.agg #[.int .i64 0, .string ⟨#[]⟩]) w := by
  obtain ⟨i0, hi, hz0, _, _⟩ := info_parts infoPk
  simp [zeroValue, typeInfo, hi, hz0]
set_option maxHeartbeats 2000000 in
theorem delP_any (lo R c : Nat) (l : List Pk) (k : Nat) (w : World) (h : GL KP lo (.slice (some ⟨R, 0, none⟩) l.length c) l w) (hk : k < l.length) (hn : l.length ≤ 1048576) :
    Calls Try.prog 74 #[.slice (some ⟨R, 0, none⟩) l.length c, .int .i64 (k : Int), .int .i64 ((k : Int) + 1)] w fun e w' => e = .returned (.slice (some ⟨R, 0, none⟩) (l.eraseIdx k).length c) ∧ GL KP lo (.slice (some ⟨R, 0, none⟩) (l.eraseIdx k).length c) (l.eraseIdx k) w' ∧ w.grownBy w' (some R) := by
  have hd : GL KP lo (.slice (some ⟨R, 0, none⟩) l.length c) l w.drew := h
  obtain ⟨w1, w2, r1', r2', o2, g2⟩ := del_runs KP.ok (.agg #[.int .i64 0, .string ⟨#[]⟩]) [.int .i64 0, .string ⟨#[]⟩] zeroPkV rfl rfl (fun v hv => by
    rcases List.mem_cons.1 hv with rfl | hv
    · rfl
    · obtain rfl := List.mem_singleton.1 hv
      rfl) lo R c l k w.drew hd hk (c - (k + 1))
  have r1 : ∀ ty, (Builtin.append_ #[36, 36] ty #[.slice (some ⟨R, 0, none⟩) k c, .slice (if c = k + 1 then some ⟨R, 0, none⟩ else some ⟨R, (k + 1) * 2, none⟩) (l.length - (k + 1)) (c - (k + 1))]).run Try.prog w.drew = .ok (.slice (some ⟨R, 0, none⟩) (l.length - 1) c) w1 := r1'
  have r2 : ∀ ty d', (Builtin.clear_ #[36] ty #[.slice (some ⟨R, (l.length - 1) * 2, none⟩) 1 d']).run Try.prog w1 = .ok (.tuple #[]) w2 := r2'
  have hcap : l.length ≤ c := (rw_cap h).1
  have hle : (l.eraseIdx k).length = l.length - 1 := by rw [List.length_eraseIdx, if_pos hk]
  rw [hle]
  have HO := hid o2
  have HG : Hid (w.grownBy w2 (some R)) := ⟨g2.os, g2.tape, g2.output, g2.size, g2.block⟩
  have hcm : c ≤ 9223372036854775807 := by
    have h9 : w.ownsRow lo KP.e KP.sz (.slice (some ⟨R, 0, none⟩) l.length c) l.length (gvals KP l) := h
    obtain ⟨hl, ⟨e, _⟩ | ⟨g, cap, cur, e, q1, hg, q2, q3, q4, q5⟩⟩ := h9
    · cases e
    · injection e with _ _ e3
      subst e3
      unfold maxLen at q3
      omega
  clear h hd r1' r2' o2 g2 hle
  have n1 : ((l.length : Int) - 1) = ((l.length - 1 : Nat) : Int) := by omega
  have i1 : (0 : Int) ≤ (k : Int) + 1 ∧ (k : Int) + 1 ≤ (l.length : Int) := by omega
  have i2 : (k : Int) + 1 ≤ (l.length : Int) := by omega
  have i3 : l.length - 1 ≤ l.length := by omega
  have i4 : l.length ≤ l.length := Nat.le_refl _
  have i5 : l.length - (l.length - 1) = 1 := by omega
  have i6 : k ≤ c := by omega
  have i7 : (k : Int) ≤ (c : Int) := by omega
  have i8 : k ≤ l.length := by omega
  have i9 : k + 1 ≤ l.length := hk
  have i10 : ¬ c = l.length - 1 := by omega
  generalize l.length = n at *
  have hne : ((k : Int) == (k : Int) + 1) = false := by simp; omega
  go_enter Try.func74, Try.ntmps74
  go_wp2_with fail
  go_region_held_law (fun _ => True) (first | exact trivial) (first | (refine step_append_run rfl _ _ 36 rfl _ _ rfl rfl _ _ r1 ?_))
  all_goals
    go_wp2_with fail
    all_goals
      go_ret
      first
        | exact ⟨rfl, HO.out, HG.out⟩
        | (have hck : c = k + 1 := by assumption
           rw [hck] at HO
           exact ⟨rfl, HO.out, HG.out⟩)
end Go.Proofs.Ytnjeeeccfhpolaa
