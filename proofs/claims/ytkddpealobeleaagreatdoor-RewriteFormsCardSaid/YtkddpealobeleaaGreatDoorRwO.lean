/- Layer 10: lists that the call made itself, of elements of several cells. -/
import Derived.Test.YtkddpealobeleaaGreatDoorRwG
import Derived.Maps.AppendAt
import Derived.OwnWalk
set_option linter.unusedSimpArgs false
set_option linter.unusedVariables false
namespace Go.Proofs.YtkddpealobeleaaGreatDoor
open Go.RowKit Go.Shelf
set_option maxRecDepth 100000
set_option maxHeartbeats 1000000
/-- A kind of rows: the types of an element and of a slice, the cells of an element. -/
structure Rw.Kd (α : Type) where
  T : TypeId
  S : TypeId
  m : Nat
  bs : Nat
  z : Value
  cs : α → List Value
structure Rw.Kd.Ok {α : Type} (K : Rw.Kd α) : Prop where
  len : ∀ x, (K.cs x).length = K.m
  one : ∀ x, ∀ u ∈ K.cs x, u.oneCell' = true
  pos : 0 < K.m
  under : Tryz.prog.underlying K.S = some (.slice K.T)
  info : (Tryz.prog.info? K.T).map (fun i => (i.zero, i.size, i.bytes)) = some (some K.z, K.m, K.bs)
  zs : K.z.cells.size = K.m
  few : K.bs ≤ 100
def Rw.OwnK {α : Type} (K : Rw.Kd α) (w : World) (B : Nat) (v : Value) (l : List α) : Prop := w.ownsRow B K.T K.m v l.length (l.flatMap K.cs)
section
variable {α : Type} {K : Rw.Kd α}
theorem Rw.flat_get (h : ∀ x : α, (K.cs x).length = K.m) : ∀ (l : List α) (k : Nat) (hk : k < l.length) (j : Nat), j < K.m → (l.flatMap K.cs)[k * K.m + j]? = (K.cs l[k])[j]?
  | [], k, hk, _, _ => by simp at hk
  | x :: l, 0, hk, j, hj => by
    rw [List.flatMap_cons, Nat.zero_mul, Nat.zero_add, List.getElem?_append_left (by rw [h]; exact hj)]
    rfl
  | x :: l, k + 1, hk, j, hj => by
    have e : (k + 1) * K.m + j = K.m + (k * K.m + j) := by rw [Nat.succ_mul]; omega
    rw [List.flatMap_cons, List.getElem?_append_right (by rw [h, e]; omega), h, e, Nat.add_sub_cancel_left]
    have := Rw.flat_get h l k (by simpa using hk) j hj
    simpa using this
theorem Rw.OwnK.nil (w : World) (B : Nat) : Rw.OwnK K w B (.slice none 0 0) [] := World.ownsRow_nil w B _ _
theorem Rw.OwnK.kept {w w' : World} {B : Nat} {v : Value} {l : List α} (h : Rw.OwnK K w B v l) {row : Option Nat} (hg : w.grownBy w' row) (hne : v.ownBlock = none ∨ v.ownBlock ≠ row) : Rw.OwnK K w' B v l := World.ownsRow.kept h hg hne
theorem Rw.OwnK.bt {w w' : World} {B : Nat} {v : Value} {l : List α} (h : Rw.OwnK K w B v l) (hb : Below w.heap.size w w') : Rw.OwnK K w' B v l := by
  unfold Rw.OwnK at h ⊢
  refine h.kept (row := none) ⟨hb.os, hb.tape, hb.output, hb.size, fun i hi _ => hb.block i hi⟩ ?_
  cases h : v.ownBlock with
  | none => exact .inl rfl
  | some g => exact .inr (by simp)
theorem Rw.OwnK.mono {W : World} {B B' : Nat} {v : Value} {l : List α} (h : Rw.OwnK K W B v l) (hB : B' ≤ B) : Rw.OwnK K W B' v l := by
  refine ⟨h.1, ?_⟩
  rcases h.2 with h0 | ⟨g, cap, cur, h1, h2, h3⟩
  · exact .inl h0
  · exact .inr ⟨g, cap, cur, h1, Nat.le_trans hB h2, h3⟩
theorem Rw.OwnK.lt {w : World} {B : Nat} {v : Value} {l : List α} (h : Rw.OwnK K w B v l) : ∀ k, v.ownBlock = some k → B ≤ k ∧ k < w.heap.size := by
  intro k hk
  rcases h.2 with ⟨rfl, _⟩ | ⟨g, cap, cur, rfl, h2, h3, _⟩
  · simp [Value.ownBlock] at hk
  · simp [Value.ownBlock] at hk
    subst hk
    exact ⟨h2, (Array.getElem?_eq_some_iff.1 h3).1⟩
/-- How such a list is read. -/
structure Rw.RdK (K : Rw.Kd α) (w : World) (A : Option Addr) (l : List α) : Prop where
  get : ∀ k (hk : k < l.length), ∃ g, A = some ⟨g, 0, none⟩ ∧ g < w.heap.size ∧ ∀ j, j < K.m → w.cell? ⟨g, k * K.m + j, none⟩ = (K.cs l[k])[j]?
theorem Rw.RdK.bt {w w' : World} {A : Option Addr} {l : List α} (h : Rw.RdK K w A l) (hb : Below w.heap.size w w') : Rw.RdK K w' A l := ⟨fun k hk => by
  obtain ⟨g, e, hlt, hc⟩ := h.get k hk
  exact ⟨g, e, Nat.lt_of_lt_of_le hlt hb.size, fun j hj => (hb.cell (p := ⟨g, k * K.m + j, none⟩) hlt).trans (hc j hj)⟩⟩
theorem Rw.OwnK.form (ok : K.Ok) {w : World} {B : Nat} {v : Value} {l : List α} (h : Rw.OwnK K w B v l) : ∃ A c, v = .slice A l.length c ∧ Rw.RdK K w A l ∧ l.length ≤ c ∧ c ≤ maxLen := by
  have h0 : w.ownsRow B K.T K.m v l.length (l.flatMap K.cs) := h
  rcases h.2 with ⟨rfl, hn⟩ | ⟨g, cap, cur, rfl, h2, h3, h4, h5, _⟩
  · obtain rfl : l = [] := List.eq_nil_of_length_eq_zero hn
    exact ⟨none, 0, rfl, ⟨fun k hk => absurd hk (by simp)⟩, by simp, by simp [maxLen]⟩
  · refine ⟨_, _, rfl, ⟨fun k hk => ⟨g, rfl, (Array.getElem?_eq_some_iff.1 h3).1, fun j hj => ?_⟩⟩, h4, h5⟩
    have hg := Rw.flat_get (K := K) ok.len l k hk j hj
    obtain ⟨u, hu⟩ : ∃ u, (K.cs (l[k]'hk))[j]? = some u := ⟨_, List.getElem?_eq_getElem (by rw [ok.len (l[k]'hk)]; exact hj)⟩
    rw [hu] at hg ⊢
    have := h0.cells (g := g) rfl (k * K.m + j) u hg
    rw [show (⟨g, 0, none⟩ : Addr).add (k * K.m + j) = ⟨g, k * K.m + j, none⟩ from by unfold Addr.add; split <;> simp_all] at this
    exact this
/-- append, one element. -/
theorem Rw.list_appendK (ok : K.Ok) {ops : Array Oper} {rest : List Oper} {o : Oper} {a : Act} {w : World} {Q : Exit → Act → World → Prop} (hgd : o.guard = none) (s x : Operand)
    (ho : o.op = .call { callee := .builtin .append, args := #[s, x], argTypes := #[K.S, K.S] }) (B : Nat) (v : Value) (l : List α) (hs : a.eval s = v) (hown : Rw.OwnK K w B v l) (b : Nat) (hx : a.eval x = .slice (some ⟨b, 0, none⟩) 1 1)
    (r : α) (T : TypeId) (hb : w.heap[b]? = some (.cells (K.cs r).toArray T (0, 0))) (hl : l.length ≤ 1000000) (hB : B ≤ w.heap.size)
    (h : ∀ v' w', Rw.OwnK K w' B v' (l ++ [r]) → Below B w w' → wpList Tryz.prog ops Q rest (a.put o.dst v') w') : wpList Tryz.prog ops Q (o :: rest) a w := by
  obtain ⟨i0, hi, hz0, hz1, hz2⟩ := info_parts ok.info
  refine wpList_append_own_at w hgd s x K.S ho B K.T i0 _ K.m K.bs ok.under hi hz0 hz1 hz2 ok.zs ok.pos v l.length (l.flatMap K.cs) hs hown ⟨b, 0, none⟩ 1 1 (K.cs r) hx (by rw [ok.len, Nat.one_mul]) (World.news_of_block hb) (ok.one r) (by unfold maxLen; omega) ?_ hB ?_
  · have := ok.few
    have : (l.length + 1) * K.bs ≤ 1000001 * 100 := Nat.mul_le_mul (by omega) this
    omega
  · intro v' w' hown' hg _ _
    refine h _ w' ?_ ?_
    · unfold Rw.OwnK
      rw [List.length_append, List.flatMap_append, List.flatMap_cons, List.flatMap_nil, List.append_nil]
      exact hown'
    · exact (Below.refl _ _).grown hg hB (fun k hk => (Rw.OwnK.lt hown k hk).1)
/-- A list of one element, just made. -/
theorem Rw.OwnK.one (ok : K.Ok) (w : World) (r : α) : Rw.OwnK K (w.alloc (.cells (K.cs r).toArray K.T)) w.heap.size (.slice (some ⟨w.heap.size, 0, none⟩) 1 1) [r] := by
  have hl := ok.len r
  refine ⟨by simp [hl], .inr ⟨w.heap.size, 1, (K.cs r).toArray, rfl, Nat.le_refl _, heap_alloc_new _ _, Nat.le_refl _, by decide, by simp [hl], ?_⟩⟩
  rw [List.length_singleton, Nat.one_mul, List.flatMap_cons, List.flatMap_nil, List.append_nil]
  exact List.take_of_length_le (by simp [hl])
end
/-! ### variants, steps -/
structure Rw.Vr where
  word : ByteArray
  e : Int
  cost : Int
def Rw.KV : Rw.Kd Rw.Vr := { T := 59, S := 33, m := 3, bs := 32, z := .agg #[.string ⟨#[]⟩, .int .i64 0, .int .i64 0], cs := fun x => [.string x.word, .int .i64 x.e, .int .i64 x.cost] }
theorem Rw.okV : Rw.KV.Ok := ⟨fun _ => rfl, fun x u hu => by simp [Rw.KV] at hu; rcases hu with rfl | rfl | rfl <;> rfl, by decide, Tryz.underlying33, by kernel_rfl, by decide, by decide⟩
end Go.Proofs.YtkddpealobeleaaGreatDoor
