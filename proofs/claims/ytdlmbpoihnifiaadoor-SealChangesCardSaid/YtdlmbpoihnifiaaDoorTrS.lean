/- As before, and said besides: which row the append has written to; a slice of one string that lies apart stays. -/
import Derived.Test.YtdlmbpoihnifiaaDoorTrP
import Derived.Test.YtdlmbpoihnifiaaDoorTrQ
namespace Go.Proofs.YtdlmbpoihnifiaaDoor
open Go.RowKit

theorem run_append3 (w : World) (B : Nat) (v : Value) (l : List ByteArray) (hown : OwnS w B v l) (v2 : Value) (B2 : Nat) (news : List ByteArray) (h2 : OwnS w B2 v2 news) (hl : l.length + news.length ≤ 1000000) (hB : B ≤ w.heap.size) (ty : TypeId) :
    ∃ v' w', (Builtin.append_ #[22, 22] ty #[v, v2]).run Tryd.prog w = .ok v' w' ∧ OwnS w' B v' (l ++ news) ∧ Below B w w' ∧ w.grownBy w' v.ownBlock := by
  obtain ⟨i0, hi, hz0, hz1, hz2⟩ := info_parts infoStr
  rcases h2.parts with ⟨rfl, rfl⟩ | ⟨g, c, rfl, hc⟩
  · exact ⟨v, w, run_append_owned_none (P := Tryd.prog) (w := w) B 22 ty 9 i0 1 Tryd.underlying22 hi v l.length (l.map Value.string) hown, by rw [List.append_nil]; exact hown, Below.refl _ _, World.grownBy.refl w _⟩
  · obtain ⟨v', w', hrun, hown', hg, _, _⟩ := run_append_own_at (P := Tryd.prog) w B 22 ty 9 i0 (.string ⟨#[]⟩) 1 16 Tryd.underlying22 hi hz0 hz1 hz2 rfl (by decide) v l.length (l.map Value.string) hown ⟨g, 0, none⟩ news.length c (news.map Value.string) (by simp) hc (all_one_strs news) (by unfold maxLen; omega) (by omega) hB
    refine ⟨v', w', hrun, ?_, (Below.refl _ _).grown hg hB (fun k hk => (OwnS.lt hown k hk).1), hg⟩
    unfold OwnS
    rw [List.length_append, List.map_append]
    exact hown'

theorem wp_append3 {o : Oper} {a : Act} {w : World} {K : Act → World → Prop} {Q : Exit → Act → World → Prop} (s x : Operand)
    (ho : o.op = .call { callee := .builtin .append, args := #[s, x], argTypes := #[22, 22] }) (B : Nat) (v : Value) (l : List ByteArray) (hs : a.eval s = v) (hown : OwnS w B v l)
    (v2 : Value) (B2 : Nat) (news : List ByteArray) (hx : a.eval x = v2) (h2 : OwnS w B2 v2 news) (hl : l.length + news.length ≤ 1000000) (hB : B ≤ w.heap.size)
    (h : ∀ v' w', OwnS w' B v' (l ++ news) → Below B w w' → w.grownBy w' v.ownBlock → K (a.put o.dst v') w') : o.wp Tryd.prog a w K Q := by
  obtain ⟨v', w', hrun, h3, h4, h5⟩ := run_append3 w B v l hown v2 B2 news h2 hl hB o.type
  unfold Oper.wp
  simp [execOp, ho, resolve, invoke, builtin, hs, hx, hrun, Result.andThen]
  exact h v' w' h3 h4 h5

theorem step_append3 {ops : Array Oper} {o : Oper} {a : Act} {w : World} {K : Act → World → Prop} {Q : Exit → Act → World → Prop} {E : Prop} (hw : Region.wanted o (yielded ops a.tmps) = true) (s x : Operand)
    (ho : o.op = .call { callee := .builtin .append, args := #[s, x], argTypes := #[22, 22] }) (B : Nat) (v : Value) (l : List ByteArray) (hs : a.eval s = v) (hown : OwnS w B v l)
    (v2 : Value) (B2 : Nat) (news : List ByteArray) (hx : a.eval x = v2) (h2 : OwnS w B2 v2 news) (hl : l.length + news.length ≤ 1000000) (hB : B ≤ w.heap.size)
    (h : ∀ v' w', OwnS w' B v' (l ++ news) → Below B w w' → w.grownBy w' v.ownBlock → K (a.put o.dst v') w') :
    if Region.wanted o (yielded ops a.tmps) = true then Oper.wp Tryd.prog o a w K Q else E := by
  rw [if_pos hw]
  exact wp_append3 s x ho B v l hs hown v2 B2 news hx h2 hl hB h

theorem list_append3 {ops : Array Oper} {rest : List Oper} {o : Oper} {a : Act} {w : World} {Q : Exit → Act → World → Prop} (hw : Region.wanted o (yielded ops a.tmps) = true) (s x : Operand)
    (ho : o.op = .call { callee := .builtin .append, args := #[s, x], argTypes := #[22, 22] }) (B : Nat) (v : Value) (l : List ByteArray) (hs : a.eval s = v) (hown : OwnS w B v l)
    (v2 : Value) (B2 : Nat) (news : List ByteArray) (hx : a.eval x = v2) (h2 : OwnS w B2 v2 news) (hl : l.length + news.length ≤ 1000000) (hB : B ≤ w.heap.size)
    (h : ∀ v' w', OwnS w' B v' (l ++ news) → Below B w w' → w.grownBy w' v.ownBlock → wpList Tryd.prog ops Q rest (a.put o.dst v') w') : wpList Tryd.prog ops Q (o :: rest) a w :=
  wpList_step fun K hK => by
    rw [if_pos hw]
    exact wp_append3 s x ho B v l hs hown v2 B2 news hx h2 hl hB fun v' w' h3 h4 h5 => hK _ _ (h v' w' h3 h4 h5)

theorem box_kept {w w' : World} {B b : Nat} {r : ByteArray} {row : Option Nat} (h : OwnS w B (.slice (some ⟨b, 0, none⟩) 1 1) [r]) (hg : w.grownBy w' row) (hne : ∀ k, row = some k → k ≠ b) : OwnS w' B (.slice (some ⟨b, 0, none⟩) 1 1) [r] := by
  unfold OwnS at h ⊢
  refine h.kept hg ?_
  cases e : row with
  | none => exact .inr (by simp [Value.ownBlock])
  | some k => exact .inr (by simp [Value.ownBlock]; exact fun e' => hne k e e'.symm)
end Go.Proofs.YtdlmbpoihnifiaaDoor
