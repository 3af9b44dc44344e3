/- Layer 10: lists of a call's own that are apart; what a lesser bound gives. -/
import Derived.Test.YtkddpealobeleaaGreatDoorRwHG
set_option linter.unusedSimpArgs false
set_option linter.unusedVariables false
namespace Go.Proofs.YtkddpealobeleaaGreatDoor
open Go.RowKit Go.Shelf
set_option maxRecDepth 100000
set_option maxHeartbeats 4000000
def Rw.KT : Rw.Kd ByteArray := { T := 9, S := 28, m := 1, bs := 16, z := .string ⟨#[]⟩, cs := fun x => [.string x] }
theorem Rw.okKT : Rw.KT.Ok := ⟨fun _ => rfl, fun x u hu => by simp [Rw.KT] at hu; rcases hu with rfl; rfl, by decide, Tryz.underlying28, by kernel_rfl, by decide, by decide⟩
def Rw.KI : Rw.Kd Int := { T := 3, S := 29, m := 1, bs := 8, z := .int .i64 0, cs := fun x => [.int .i64 x] }
theorem Rw.okKI : Rw.KI.Ok := ⟨fun _ => rfl, fun x u hu => by simp [Rw.KI] at hu; rcases hu with rfl; rfl, by decide, Tryz.underlying29, by kernel_rfl, by decide, by decide⟩
theorem Rw.OwnK.strs {w : World} {B : Nat} {v : Value} {l : List ByteArray} (h : Rw.OwnK Rw.KT w B v l) : ∃ A c, v = .slice A l.length c ∧ Strs w w.heap.size A l ∧ l.length ≤ c ∧ c ≤ maxLen := by
  obtain ⟨A, c, rfl, hr, h1, h2⟩ := h.form Rw.okKT
  refine ⟨A, c, rfl, fun k hk => ?_, h1, h2⟩
  obtain ⟨g, rfl, hg, hc⟩ := hr.get k hk
  refine ⟨⟨g, 0, none⟩, rfl, hg, ?_⟩
  have := hc 0 (by decide)
  rw [show k * Rw.KT.m + 0 = k from Nat.mul_one k] at this
  rw [show (⟨g, 0, none⟩ : Addr).add k = ⟨g, k, none⟩ from by unfold Addr.add; split <;> simp_all, this, List.getD_eq_getElem?_getD, List.getElem?_eq_getElem hk]
  rfl
theorem Rw.OwnK.zs {w : World} {B : Nat} {v : Value} {l : List Int} (h : Rw.OwnK Rw.KI w B v l) : ∃ A c, v = .slice A l.length c ∧ Rw.Zs w w.heap.size A l ∧ l.length ≤ c ∧ c ≤ maxLen := by
  obtain ⟨A, c, rfl, hr, h1, h2⟩ := h.form Rw.okKI
  refine ⟨A, c, rfl, fun k hk => ?_, h1, h2⟩
  obtain ⟨g, rfl, hg, hc⟩ := hr.get k hk
  refine ⟨⟨g, 0, none⟩, rfl, hg, ?_⟩
  have := hc 0 (by decide)
  rw [show k * Rw.KI.m + 0 = k from Nat.mul_one k] at this
  rw [show (⟨g, 0, none⟩ : Addr).add k = ⟨g, k, none⟩ from by unfold Addr.add; split <;> simp_all, this]
  rfl
/-- No block in common. -/
def Rw.Ap (u v : Value) : Prop := ∀ g, u.ownBlock = some g → v.ownBlock ≠ some g
theorem Rw.Ap.symm {u v : Value} (h : Rw.Ap u v) : Rw.Ap v u := fun g h1 h2 => h g h2 h1
theorem Rw.Ap.nil (v : Value) : Rw.Ap (.slice none 0 0) v := fun g h => by simp [Value.ownBlock] at h
/-- append, one element; what is apart stays. -/
theorem Rw.list_appendA {α : Type} {K : Rw.Kd α} (ok : K.Ok) {ops : Array Oper} {rest : List Oper} {o : Oper} {a : Act} {w : World} {Q : Exit → Act → World → Prop} (hgd : o.guard = none) (s x : Operand)
    (ho : o.op = .call { callee := .builtin .append, args := #[s, x], argTypes := #[K.S, K.S] }) (B : Nat) (v : Value) (l : List α) (hs : a.eval s = v) (hown : Rw.OwnK K w B v l) (b : Nat) (hx : a.eval x = .slice (some ⟨b, 0, none⟩) 1 1)
    (r : α) (T : TypeId) (hb : w.heap[b]? = some (.cells (K.cs r).toArray T (0, 0))) (hl : l.length ≤ 1000000) (hB : B ≤ w.heap.size)
    (h : ∀ v' w', Rw.OwnK K w' B v' (l ++ [r]) → Below B w w' → (∀ (β : Type) (K2 : Rw.Kd β) (B2 : Nat) (u : Value) (l2 : List β), Rw.OwnK K2 w B2 u l2 → Rw.Ap u v → Rw.OwnK K2 w' B2 u l2 ∧ Rw.Ap u v') → wpList Tryz.prog ops Q rest (a.put o.dst v') w') : wpList Tryz.prog ops Q (o :: rest) a w := by
  obtain ⟨i0, hi, hz0, hz1, hz2⟩ := info_parts ok.info
  refine wpList_append_own_at w hgd s x K.S ho B K.T i0 _ K.m K.bs ok.under hi hz0 hz1 hz2 ok.zs ok.pos v l.length (l.flatMap K.cs) hs hown ⟨b, 0, none⟩ 1 1 (K.cs r) hx (by rw [ok.len, Nat.one_mul]) (World.news_of_block hb) (ok.one r) (by unfold maxLen; omega) ?_ hB ?_
  · have := ok.few
    have : (l.length + 1) * K.bs ≤ 1000001 * 100 := Nat.mul_le_mul (by omega) this
    omega
  · intro v' w' hown' hg _ hob
    refine h _ w' ?_ ?_ fun β K2 B2 u l2 hu hap => ⟨hu.kept hg ?_, fun g hug hvg => ?_⟩
    · unfold Rw.OwnK
      rw [List.length_append, List.flatMap_append, List.flatMap_cons, List.flatMap_nil, List.append_nil]
      exact hown'
    · exact (Below.refl _ _).grown hg hB (fun k hk => (Rw.OwnK.lt hown k hk).1)
    · cases hub : u.ownBlock with
      | none => exact .inl rfl
      | some g => exact .inr fun e => hap g hub e.symm
    · rcases hob with e | e
      · rw [e] at hvg
        exact hap g hug hvg
      · rw [e] at hvg
        have := (hu.lt g hug).2
        cases hvg
        omega
/-! ### a lesser bound -/
def Rw.cut (ts : List ByteArray) (ns : List Int) (most : Int) (i : Nat) : List (ByteArray × Int) := ((ts.zip ns).take i).filter fun p => decide (p.2 ≤ most)
theorem Rw.cut_step {ts : List ByteArray} {ns : List Int} {most : Int} {i : Nat} (h1 : i < ts.length) (h2 : i < ns.length) : Rw.cut ts ns most (i + 1) = Rw.cut ts ns most i ++ (if ns[i] ≤ most then [(ts.getD i ByteArray.empty, ns[i])] else []) := by
  unfold Rw.cut
  have hz : i < (ts.zip ns).length := by rw [List.length_zip]; omega
  rw [Rw.take_ext hz, List.filter_append, List.getElem_zip]
  congr 1
  rw [List.getD_eq_getElem?_getD, List.getElem?_eq_getElem h1]
  by_cases h : ns[i] ≤ most
  · rw [if_pos h]
    simp [h]
  · rw [if_neg h]
    simp [h]
theorem Rw.cut_len (ts : List ByteArray) (ns : List Int) (most : Int) (i : Nat) : (Rw.cut ts ns most i).length ≤ i := by
  unfold Rw.cut
  have h1 := List.length_filter_le (fun p : ByteArray × Int => decide (p.2 ≤ most)) ((ts.zip ns).take i)
  rw [List.length_take] at h1
  omega
theorem Rw.Gi.cut {t : Rw.TV} {k : Int} {x : ByteArray} {most more : Int} {c : Int} {ss ts : List ByteArray} {ms ns : List Int} (h : Rw.Gi t k x most c ss ms) (h2 : Rw.Gi t k x more 0 ts ns) (hm : most ≤ more) :
    c = 0 ∧ ss = (Rw.cut ts ns most ts.length).map (·.1) ∧ ms = (Rw.cut ts ns most ts.length).map (·.2) ∧ (most < 0 → ss = []) := by
  rcases h2 with ⟨_, e, _⟩ | ⟨_, _, e, _⟩ | ⟨b1, gs, b2, b3, _, _, _, rfl, rfl⟩
  · omega
  · omega
  rcases h with ⟨a1, rfl, rfl, rfl⟩ | ⟨a1, a2, rfl, rfl, rfl⟩ | ⟨a1, fs, a2, a3, _, _, rfl, rfl, rfl⟩
  · rw [a1] at b1; cases b1
  · have := (a2.more (fun r h => h) hm).not b2
    omega
  · obtain rfl := a2.one (b2.cut hm)
    have hz : ((gs.map fun y => Nm.bt y.1).zip (gs.map fun y => (y.2 : Int))) = gs.map fun y => (Nm.bt y.1, (y.2 : Int)) := by
      rw [List.zip_map']
    have hc : Rw.cut (gs.map fun y => Nm.bt y.1) (gs.map fun y => (y.2 : Int)) most (gs.map fun y => Nm.bt y.1).length = (gs.filter fun y => decide ((y.2 : Int) ≤ most)).map fun y => (Nm.bt y.1, (y.2 : Int)) := by
      unfold Rw.cut
      rw [hz, List.length_map, List.take_of_length_le (by rw [List.length_map]; exact Nat.le_refl _), List.filter_map]
      rfl
    rw [hc, List.map_map, List.map_map]
    refine ⟨rfl, rfl, rfl, fun hneg => ?_⟩
    rw [a2.neg hneg]
    rfl
theorem Rw.Gi.one12 {t : Rw.TV} {k : Int} {x : ByteArray} {most more : Int} {c d : Int} {ss ts : List ByteArray} {ms ns : List Int} (h : Rw.Gi t k x most c ss ms) (h2 : Rw.Gi t k x more d ts ns) : (d = 0 ∨ d = 1 ∨ d = 2) ∧ (d = 1 → c = 1) := by
  rcases h2 with ⟨b1, rfl, _⟩ | ⟨b1, _, rfl, _⟩ | ⟨b1, _, _, _, _, _, rfl, _⟩
  · refine ⟨.inr (.inl rfl), fun _ => ?_⟩
    rcases h with ⟨_, rfl, _⟩ | ⟨a1, _⟩ | ⟨a1, _⟩
    · rfl
    · rw [a1] at b1; cases b1
    · rw [a1] at b1; cases b1
  · exact ⟨.inr (.inr rfl), fun e => by omega⟩
  · exact ⟨.inl rfl, fun e => by omega⟩
end Go.Proofs.YtkddpealobeleaaGreatDoor
