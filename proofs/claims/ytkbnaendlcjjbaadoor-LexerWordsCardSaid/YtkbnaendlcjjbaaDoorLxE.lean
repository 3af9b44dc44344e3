/- Layer 7: the program's Lex: a list of tokens of the call's own; every outcome. -/
import Derived.Test.YtkbnaendlcjjbaaDoorLxD
import Derived.Maps.AppendAt
import Derived.OwnWalk
import Derived.Deep.AppendLies
set_option linter.unusedSimpArgs false
set_option linter.unusedVariables false
namespace Go.Proofs.YtkbnaendlcjjbaaDoor
open Go.RowKit
set_option maxRecDepth 100000

/-! ### lists of tokens -/
def Lx.tkV (t : Lx.Tk) : List Value := [.int .i64 t.kind, .int .i64 (t.at' : Int), .int .i64 (t.n : Int), .string ⟨t.text.toArray⟩]
def Lx.tkC (l : List Lx.Tk) : List Value := l.flatMap Lx.tkV
theorem Lx.tkC_append (l m : List Lx.Tk) : Lx.tkC (l ++ m) = Lx.tkC l ++ Lx.tkC m := by unfold Lx.tkC; exact List.flatMap_append
theorem Lx.tkC_get : ∀ (l : List Lx.Tk) (k : Nat) (h : k < l.length), (Lx.tkC l)[k * 4]? = some (.int .i64 (l[k]).kind) ∧ (Lx.tkC l)[k * 4 + 1]? = some (.int .i64 ((l[k]).at' : Int)) ∧ (Lx.tkC l)[k * 4 + 2]? = some (.int .i64 ((l[k]).n : Int)) ∧ (Lx.tkC l)[k * 4 + 3]? = some (.string ⟨(l[k]).text.toArray⟩)
  | [], k, h => absurd h (by simp)
  | p :: r, 0, h => ⟨rfl, rfl, rfl, rfl⟩
  | p :: r, k + 1, h => by
    have := Lx.tkC_get r k (by simpa using h)
    have e : Lx.tkC (p :: r) = .int .i64 p.kind :: .int .i64 (p.at' : Int) :: .int .i64 (p.n : Int) :: .string ⟨p.text.toArray⟩ :: Lx.tkC r := rfl
    rw [e, show (k + 1) * 4 = k * 4 + 4 by omega, show k * 4 + 4 + 1 = k * 4 + 1 + 4 by omega, show k * 4 + 4 + 2 = k * 4 + 2 + 4 by omega, show k * 4 + 4 + 3 = k * 4 + 3 + 4 by omega]
    simpa using this
theorem Lx.infoTk : (Tryd.prog.info? 30).map (fun i => (i.zero, i.size, i.bytes)) = some (some (.agg #[.int .i64 0, .int .i64 0, .int .i64 0, .string ⟨#[]⟩]), 4, 40) := by kernel_rfl
/-- A list of tokens that the call has made itself. -/
def CoT (w : World) (B : Nat) (v : Value) (l : List Lx.Tk) : Prop := w.ownsRow B 30 4 v l.length (Lx.tkC l)
/-- A list of tokens, to be read: it begins at the cell o of its block. -/
def TkS (w : World) (B o : Nat) (A : Option Addr) (l : List Lx.Tk) : Prop :=
  ∀ k, (h : k < l.length) → ∃ g, A = some ⟨g, o, none⟩ ∧ g < B ∧ w.cell? ⟨g, o + k * 4, none⟩ = some (.int .i64 (l[k]).kind) ∧ w.cell? ⟨g, o + k * 4 + 1, none⟩ = some (.int .i64 ((l[k]).at' : Int)) ∧ w.cell? ⟨g, o + k * 4 + 2, none⟩ = some (.int .i64 ((l[k]).n : Int)) ∧ w.cell? ⟨g, o + k * 4 + 3, none⟩ = some (.string ⟨(l[k]).text.toArray⟩)
theorem TkS.bt {w w' : World} {o : Nat} {A : Option Addr} {l : List Lx.Tk} (h : TkS w w.heap.size o A l) (hb : Below w.heap.size w w') : TkS w' w'.heap.size o A l := fun k hk => by
  obtain ⟨g, rfl, hlt, h0, h1, h2, h3⟩ := h k hk
  exact ⟨g, rfl, Nat.lt_of_lt_of_le hlt hb.size, (hb.cell hlt).trans h0, (hb.cell hlt).trans h1, (hb.cell hlt).trans h2, (hb.cell hlt).trans h3⟩
theorem TkS.at0 {w : World} {B : Nat} {A : Option Addr} {l : List Lx.Tk} (h : TkS w B 0 A l) (k : Nat) (hk : k < l.length) :
    ∃ g, A = some ⟨g, 0, none⟩ ∧ g < B ∧ w.cell? ⟨g, k * 4, none⟩ = some (.int .i64 (l[k]).kind) ∧ w.cell? ⟨g, k * 4 + 1, none⟩ = some (.int .i64 ((l[k]).at' : Int)) ∧ w.cell? ⟨g, k * 4 + 2, none⟩ = some (.int .i64 ((l[k]).n : Int)) ∧ w.cell? ⟨g, k * 4 + 3, none⟩ = some (.string ⟨(l[k]).text.toArray⟩) := by
  obtain ⟨g, e, hlt, h0, h1, h2, h3⟩ := h k hk
  simp only [Nat.zero_add] at h0 h1 h2 h3
  exact ⟨g, e, hlt, h0, h1, h2, h3⟩
theorem CoT.nil (w : World) (B : Nat) : CoT w B (.slice none 0 0) [] := World.ownsRow_nil w B _ _
theorem CoT.bt {w w' : World} {B : Nat} {v : Value} {l : List Lx.Tk} (h : CoT w B v l) (hb : Below w.heap.size w w') : CoT w' B v l := by
  unfold CoT at h ⊢
  refine h.kept (row := none) ⟨hb.os, hb.tape, hb.output, hb.size, fun i hi _ => hb.block i hi⟩ ?_
  cases h : v.ownBlock with
  | none => exact .inl rfl
  | some g => exact .inr (by simp)
theorem CoT.mono {W : World} {B B' : Nat} {v : Value} {l : List Lx.Tk} (h : CoT W B v l) (hB : B' ≤ B) : CoT W B' v l := by
  refine ⟨h.1, ?_⟩
  rcases h.2 with h0 | ⟨g, cap, cur, h1, h2, h3⟩
  · exact .inl h0
  · exact .inr ⟨g, cap, cur, h1, Nat.le_trans hB h2, h3⟩
theorem CoT.lt {w : World} {B : Nat} {v : Value} {l : List Lx.Tk} (h : CoT w B v l) : ∀ k, v.ownBlock = some k → B ≤ k ∧ k < w.heap.size := by
  intro k hk
  rcases h.2 with ⟨rfl, _⟩ | ⟨g, cap, cur, rfl, h2, h3, _⟩
  · simp [Value.ownBlock] at hk
  · simp [Value.ownBlock] at hk
    subst hk
    exact ⟨h2, (Array.getElem?_eq_some_iff.1 h3).1⟩
theorem CoT.form {w : World} {B : Nat} {v : Value} {l : List Lx.Tk} (h : CoT w B v l) : ∃ A c, v = .slice A l.length c ∧ TkS w w.heap.size 0 A l ∧ l.length ≤ c ∧ c ≤ maxLen := by
  have h0 : w.ownsRow B 30 4 v l.length (Lx.tkC l) := h
  rcases h.2 with ⟨rfl, hn⟩ | ⟨g, cap, cur, rfl, h2, h3, h4, h5, _⟩
  · obtain rfl : l = [] := List.eq_nil_of_length_eq_zero hn
    exact ⟨none, 0, rfl, fun k hk => absurd hk (by simp), by simp, by simp [maxLen]⟩
  · have ea : ∀ n, (⟨g, 0, none⟩ : Addr).add n = ⟨g, n, none⟩ := fun n => by unfold Addr.add; split <;> simp_all
    refine ⟨_, _, rfl, fun k hk => ⟨g, rfl, (Array.getElem?_eq_some_iff.1 h3).1, ?_⟩, h4, h5⟩
    have c0 := h0.cells (g := g) rfl (k * 4) _ (Lx.tkC_get l k hk).1
    have c1 := h0.cells (g := g) rfl (k * 4 + 1) _ (Lx.tkC_get l k hk).2.1
    have c2 := h0.cells (g := g) rfl (k * 4 + 2) _ (Lx.tkC_get l k hk).2.2.1
    have c3 := h0.cells (g := g) rfl (k * 4 + 3) _ (Lx.tkC_get l k hk).2.2.2
    simp only [ea] at c0 c1 c2 c3
    simp only [Nat.zero_add]
    exact ⟨c0, c1, c2, c3⟩
theorem Lx.list_append {ops : Array Oper} {rest : List Oper} {o : Oper} {a : Act} {w : World} {Q : Exit → Act → World → Prop} (hgd : o.guard = none) (s x : Operand)
    (ho : o.op = .call { callee := .builtin .append, args := #[s, x], argTypes := #[23, 23] }) (B : Nat) (v : Value) (l : List Lx.Tk) (hs : a.eval s = v) (hown : CoT w B v l) (b : Nat) (hx : a.eval x = .slice (some ⟨b, 0, none⟩) 1 1)
    (r : Lx.Tk) (T : TypeId) (hb : w.heap[b]? = some (.cells (Lx.tkV r).toArray T (0, 0))) (hl : l.length ≤ 1000000) (hB : B ≤ w.heap.size)
    (h : ∀ v' w', CoT w' B v' (l ++ [r]) → Below B w w' → wpList Tryd.prog ops Q rest (a.put o.dst v') w') : wpList Tryd.prog ops Q (o :: rest) a w := by
  obtain ⟨i0, hi, hz0, hz1, hz2⟩ := info_parts Lx.infoTk
  refine wpList_append_own_at w hgd s x 23 ho B 30 i0 _ 4 40 Tryd.underlying23 hi hz0 hz1 hz2 rfl (by decide) v l.length (Lx.tkC l) hs hown ⟨b, 0, none⟩ 1 1 (Lx.tkV r) hx rfl (World.news_of_block hb) ?_ (by unfold maxLen; omega) (by omega) hB ?_
  · intro u hu
    simp [Lx.tkV] at hu
    rcases hu with rfl | rfl | rfl | rfl <;> rfl
  · intro v' w' hown' hg _ _
    refine h _ w' ?_ ?_
    · unfold CoT
      rw [List.length_append, Lx.tkC_append]
      exact hown'
    · exact (Below.refl _ _).grown hg hB (fun k hk => (CoT.lt hown k hk).1)

/-! ### the scanner's block -/
def Lx.scC (t : ByteArray) : Array Value := #[Value.string t] ++ Lx.cv Lx.tabC
theorem Lx.scC_size (t : ByteArray) : (Lx.scC t).size = 257 := by
  unfold Lx.scC
  rw [Array.size_append, Lx.cv_size]
  simp [Lx.tabC]
theorem Lx.scC_one (t : ByteArray) : (Lx.scC t).all (·.oneCell') = true := by
  unfold Lx.scC
  rw [Array.all_append, Lx.cv_one]
  simp [Value.oneCell']
theorem Lx.built (t : ByteArray) : Tryd.prog.built 45 [(0, .string t), (1, .agg (Lx.cv Lx.tabC))] = some (Lx.scC t) := by kernel_rfl
theorem Lx.info45 : (Tryd.prog.info? 45).map (fun i => (i.zero, i.size)) = some (some (.agg (#[Value.string ⟨#[]⟩] ++ Lx.cv (Lx.tabN 0))), 257) := by kernel_rfl
theorem Lx.list_build {ops : Array Oper} {rest : List Oper} {o : Oper} {a : Act} {w : World} {Q : Exit → Act → World → Prop} (hg : o.guard = none) (t : TypeId) (x y : Operand) (ho : o.op = .build t #[(0, x), (1, y)])
    (u v : Value) (hx : a.eval x = u) (hy : a.eval y = v) (cells : Array Value) (hf : Tryd.prog.built t [(0, u), (1, v)] = some cells)
    (h : wpList Tryd.prog ops Q rest (a.put o.dst (.agg cells)) w) : wpList Tryd.prog ops Q (o :: rest) a w := by
  have e : Tryd.prog.built t ((#[(0, x), (1, y)] : Array (Nat × Operand)).map fun (i, x) => (i, a.eval x)).toList = some cells := by
    simp [hx, hy, hf]
  refine wpList_build hg t _ ho (by rw [e]; rfl) ?_
  rw [e]
  exact h
theorem Lx.st3 (w : World) (a o : Obj) (cs : Array Value) : Below w.heap.size w (((w.alloc a).setRow w.heap.size cs).alloc o) := by
  have h := below_setRow (Lx.al w a) (Nat.le_refl _) cs
  exact h.alloc h.size o
theorem Lx.st2 (w : World) (a : Obj) (cs : Array Value) : Below w.heap.size w ((w.alloc a).setRow w.heap.size cs) := below_setRow (Lx.al w a) (Nat.le_refl _) cs
theorem Lx.st_size (w : World) (a : Obj) (cs : Array Value) : ((w.alloc a).setRow w.heap.size cs).heap.size = w.heap.size + 1 := by
  unfold World.setRow World.alloc
  simp
theorem Lx.st3n (w : World) (a o : Obj) (cs : Array Value) : (((w.alloc a).setRow w.heap.size cs).alloc o).heap[w.heap.size + 1]? = some o := by
  have := heap_alloc_new ((w.alloc a).setRow w.heap.size cs) o
  rwa [Lx.st_size] at this
end Go.Proofs.YtkbnaendlcjjbaaDoor
