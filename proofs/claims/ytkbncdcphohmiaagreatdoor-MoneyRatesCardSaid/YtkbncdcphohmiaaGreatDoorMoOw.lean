/- Layer 8: lists of rates that the call has made itself. -/
import Derived.Test.YtkbncdcphohmiaaGreatDoorMoV
import Derived.Maps.AppendAt
import Derived.OwnWalk
import Derived.Deep.AppendLies
import Derived.Deep.Slices
set_option linter.unusedSimpArgs false
set_option linter.unusedVariables false
namespace Go.Proofs.YtkbncdcphohmiaaGreatDoor
open Go.RowKit
set_option maxRecDepth 100000

def Mo.rtV (x : Mo.Rt) : List Value := [.string x.cur, .int .i64 x.day, .int .i64 x.num, .int .i64 x.den]
def Mo.rtC (l : List Mo.Rt) : List Value := l.flatMap Mo.rtV
theorem Mo.rtC_append (l m : List Mo.Rt) : Mo.rtC (l ++ m) = Mo.rtC l ++ Mo.rtC m := by unfold Mo.rtC; exact List.flatMap_append
theorem Mo.rtC_get : ∀ (l : List Mo.Rt) (k : Nat) (h : k < l.length), (Mo.rtC l)[k * 4]? = some (.string (l[k]).cur) ∧ (Mo.rtC l)[k * 4 + 1]? = some (.int .i64 (l[k]).day) ∧ (Mo.rtC l)[k * 4 + 2]? = some (.int .i64 (l[k]).num) ∧ (Mo.rtC l)[k * 4 + 3]? = some (.int .i64 (l[k]).den)
  | [], k, h => absurd h (by simp)
  | p :: r, 0, h => ⟨rfl, rfl, rfl, rfl⟩
  | p :: r, k + 1, h => by
    have := Mo.rtC_get r k (by simpa using h)
    have e : Mo.rtC (p :: r) = .string p.cur :: .int .i64 p.day :: .int .i64 p.num :: .int .i64 p.den :: Mo.rtC r := rfl
    rw [e, show (k + 1) * 4 = k * 4 + 4 by omega, show k * 4 + 4 + 1 = k * 4 + 1 + 4 by omega, show k * 4 + 4 + 2 = k * 4 + 2 + 4 by omega, show k * 4 + 4 + 3 = k * 4 + 3 + 4 by omega]
    simpa using this
theorem Mo.infoRt : (Tryz.prog.info? 27).map (fun i => (i.zero, i.size, i.bytes)) = some (some (.agg #[.string ⟨#[]⟩, .int .i64 0, .int .i64 0, .int .i64 0]), 4, 40) := by kernel_rfl
/-- A list of rates that the call has made itself. -/
def Mo.CoR (w : World) (B : Nat) (v : Value) (l : List Mo.Rt) : Prop := w.ownsRow B 27 4 v l.length (Mo.rtC l)
theorem Mo.CoR.nil (w : World) (B : Nat) : Mo.CoR w B (.slice none 0 0) [] := World.ownsRow_nil w B _ _
theorem Mo.CoR.bt {w w' : World} {B : Nat} {v : Value} {l : List Mo.Rt} (h : Mo.CoR w B v l) (hb : Below w.heap.size w w') : Mo.CoR w' B v l := by
  unfold Mo.CoR at h ⊢
  refine h.kept (row := none) ⟨hb.os, hb.tape, hb.output, hb.size, fun i hi _ => hb.block i hi⟩ ?_
  cases h : v.ownBlock with
  | none => exact .inl rfl
  | some g => exact .inr (by simp)
theorem Mo.CoR.lt {w : World} {B : Nat} {v : Value} {l : List Mo.Rt} (h : Mo.CoR w B v l) : ∀ k, v.ownBlock = some k → B ≤ k ∧ k < w.heap.size := by
  intro k hk
  rcases h.2 with ⟨rfl, _⟩ | ⟨g, cap, cur, rfl, h2, h3, _⟩
  · simp [Value.ownBlock] at hk
  · simp [Value.ownBlock] at hk
    subst hk
    exact ⟨h2, (Array.getElem?_eq_some_iff.1 h3).1⟩
theorem Mo.CoR.form {w : World} {B : Nat} {v : Value} {l : List Mo.Rt} (h : Mo.CoR w B v l) : ∃ A c, v = .slice A l.length c ∧ Mo.Rts w w.heap.size A l := by
  have h0 : w.ownsRow B 27 4 v l.length (Mo.rtC l) := h
  rcases h.2 with ⟨rfl, hn⟩ | ⟨g, cap, cur, rfl, h2, h3, h4, h5, _⟩
  · obtain rfl : l = [] := List.eq_nil_of_length_eq_zero hn
    exact ⟨none, 0, rfl, fun k hk => absurd hk (by simp)⟩
  · refine ⟨_, _, rfl, fun k hk => ⟨_, rfl, (Array.getElem?_eq_some_iff.1 h3).1, ?_⟩⟩
    have c0 := h0.cells (g := g) rfl (k * 4) _ (Mo.rtC_get l k hk).1
    have c1 := h0.cells (g := g) rfl (k * 4 + 1) _ (Mo.rtC_get l k hk).2.1
    have c2 := h0.cells (g := g) rfl (k * 4 + 2) _ (Mo.rtC_get l k hk).2.2.1
    have c3 := h0.cells (g := g) rfl (k * 4 + 3) _ (Mo.rtC_get l k hk).2.2.2
    refine ⟨c0, ?_, ?_, ?_⟩
    · rw [Go.Deep.add_add]; exact c1
    · rw [Go.Deep.add_add]; exact c2
    · rw [Go.Deep.add_add]; exact c3
def Mo.Dj (u v : Value) : Prop := ∀ g, u.ownBlock = some g → v.ownBlock = some g → False
theorem Mo.Dj.symm {u v : Value} (h : Mo.Dj u v) : Mo.Dj v u := fun g h1 h2 => h g h2 h1
theorem Mo.Dj.nil (v : Value) : Mo.Dj (.slice none 0 0) v := fun g h _ => by simp [Value.ownBlock] at h
/-- Two lists of the call's own. -/
structure Mo.Two (w : World) (B : Nat) (a : Value) (la : List Mo.Rt) (b : Value) (lb : List Mo.Rt) : Prop where
  oa : Mo.CoR w B a la
  ob : Mo.CoR w B b lb
  ab : Mo.Dj a b
theorem Mo.Two.bt {w w' : World} {B : Nat} {a b : Value} {la lb : List Mo.Rt} (h : Mo.Two w B a la b lb) (hb : Below w.heap.size w w') : Mo.Two w' B a la b lb := ⟨h.oa.bt hb, h.ob.bt hb, h.ab⟩
theorem Mo.Two.swap {w : World} {B : Nat} {a b : Value} {la lb : List Mo.Rt} (h : Mo.Two w B a la b lb) : Mo.Two w B b lb a la := ⟨h.ob, h.oa, h.ab.symm⟩
theorem Mo.list_appendR {ops : Array Oper} {rest : List Oper} {o : Oper} {a : Act} {w : World} {Q : Exit → Act → World → Prop} (hgd : o.guard = none) (s x : Operand)
    (ho : o.op = .call { callee := .builtin .append, args := #[s, x], argTypes := #[22, 22] }) (B : Nat) (v u : Value) (l m : List Mo.Rt) (hs : a.eval s = v) (hown : Mo.Two w B v l u m) (b : Nat) (hx : a.eval x = .slice (some ⟨b, 0, none⟩) 1 1)
    (r : Mo.Rt) (T : TypeId) (hb : w.heap[b]? = some (.cells (Mo.rtV r).toArray T (0, 0))) (hl : l.length ≤ 1000000) (hB : B ≤ w.heap.size)
    (h : ∀ v' w', Mo.Two w' B v' (l ++ [r]) u m → Below B w w' → wpList Tryz.prog ops Q rest (a.put o.dst v') w') : wpList Tryz.prog ops Q (o :: rest) a w := by
  obtain ⟨i0, hi, hz0, hz1, hz2⟩ := info_parts Mo.infoRt
  refine wpList_append_own_at w hgd s x 22 ho B 27 i0 _ 4 40 Tryz.underlying22 hi hz0 hz1 hz2 rfl (by decide) v l.length (Mo.rtC l) hs hown.oa ⟨b, 0, none⟩ 1 1 (Mo.rtV r) hx rfl (World.news_of_block hb) ?_ (by unfold maxLen; omega) (by omega) hB ?_
  · intro u hu
    simp [Mo.rtV] at hu
    rcases hu with rfl | rfl | rfl | rfl <;> rfl
  · intro v' w' hown' hg _ hblk
    have hbl : Below B w w' := (Below.refl _ _).grown hg hB (fun k hk => (hown.oa.lt k hk).1)
    refine h _ w' ⟨?_, ?_, fun g h1 h2 => ?_⟩ hbl
    · unfold Mo.CoR
      rw [List.length_append, Mo.rtC_append]
      have e : Mo.rtC [r] = Mo.rtV r := by simp [Mo.rtC]
      rw [e]
      exact hown'
    · have h' : w.ownsRow B 27 4 u m.length (Mo.rtC m) := hown.ob
      refine h'.kept hg ?_
      cases e : u.ownBlock with
      | none => exact .inl rfl
      | some g => exact .inr (fun e2 => hown.ab g e2.symm e)
    · rcases hblk with e | e
      · exact hown.ab g (e ▸ h1) h2
      · rw [e] at h1
        have := (hown.ob.lt g h2).2
        simp at h1
        omega
end Go.Proofs.YtkbncdcphohmiaaGreatDoor
