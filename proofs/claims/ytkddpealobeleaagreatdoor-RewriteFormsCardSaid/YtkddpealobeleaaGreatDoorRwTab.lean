/- Layer 10: the law's own table of the examples. -/
import Derived.Test.YtkddpealobeleaaGreatDoorRwI
import Derived.Deep.RegionHeld3
set_option linter.unusedSimpArgs false
set_option linter.unusedVariables false
namespace Go.Proofs.YtkddpealobeleaaGreatDoor
open Go.RowKit Go.Shelf
set_option maxRecDepth 100000
set_option maxHeartbeats 4000000
attribute [-go_sem] Builtin.append_
def Rw.KR : Rw.Kd Rw.Rl := { T := 52, S := 22, m := 4, bs := 48, z := .agg #[.int .i64 0, .string ⟨#[]⟩, .string ⟨#[]⟩, .int .i64 0], cs := fun x => [.int .i64 x.k, .string x.frm, .string x.to, .int .i64 x.cost] }
theorem Rw.okR : Rw.KR.Ok := ⟨fun _ => rfl, fun x u hu => by simp [Rw.KR] at hu; rcases hu with rfl | rfl | rfl | rfl <;> rfl, by decide, Tryz.underlying22, by kernel_rfl, by decide, by decide⟩
/-- An own list of rules is one that can be read. -/
theorem Rw.OwnK.rls {w : World} {B : Nat} {v : Value} {l : List Rw.Rl} (h : Rw.OwnK Rw.KR w B v l) : ∃ A c, v = .slice A l.length c ∧ Rw.Rls w w.heap.size A l ∧ l.length ≤ c ∧ c ≤ maxLen := by
  obtain ⟨A, c, rfl, hr, h1, h2⟩ := h.form Rw.okR
  refine ⟨A, c, rfl, fun k hk => ?_, h1, h2⟩
  obtain ⟨g, rfl, hg, hc⟩ := hr.get k hk
  have e : ∀ j, (⟨g, 0, none⟩ : Addr).add j = ⟨g, j, none⟩ := fun j => by unfold Addr.add; split <;> simp_all
  have e2 : ∀ i j, (⟨g, i, none⟩ : Addr).add j = ⟨g, i + j, none⟩ := fun i j => by unfold Addr.add; split <;> simp_all
  refine ⟨⟨g, 0, none⟩, rfl, hg, ?_, ?_, ?_, ?_⟩
  · have := hc 0 (by decide)
    rw [show k * Rw.KR.m + 0 = k * 4 from rfl] at this
    rw [e, this]; rfl
  · have := hc 1 (by decide)
    rw [e, e2, show k * 4 + 1 = k * Rw.KR.m + 1 from rfl, this]; rfl
  · have := hc 2 (by decide)
    rw [e, e2, show k * 4 + 2 = k * Rw.KR.m + 2 from rfl, this]; rfl
  · have := hc 3 (by decide)
    rw [e, e2, show k * 4 + 3 = k * Rw.KR.m + 3 from rfl, this]; rfl
/-- A rule that is appended to the field of a table. -/
theorem Rw.tab_round (wr : World) (E B n0 : Nat) (u c1 c2 c3 c4 c5 : Value) (l : List Rw.Rl) (x : Rw.Rl) (hE : Rw.Bx wr E #[u, c1, c2, c3, c4, c5] 25) (hl : Rw.OwnK Rw.KR wr B u l) (hEB : E < B) (hn : n0 ≤ E) (hB : B ≤ wr.heap.size) (hm : l.length ≤ 1000) :
    ∃ g cap w3, (Builtin.append_ #[22, 22] 22 #[u, .slice (some ⟨wr.heap.size, 0, none⟩) 1 1]).run Tryz.prog (wr.drew.alloc (.cells #[.int .i64 x.k, .string x.frm, .string x.to, .int .i64 x.cost] 52)) = .ok (.slice (some ⟨g, 0, none⟩) (l.length + 1) cap) w3 ∧
      Rw.Bx (wr.drew.alloc (.cells #[.int .i64 x.k, .string x.frm, .string x.to, .int .i64 x.cost] 52)) E #[u, c1, c2, c3, c4, c5] 25 ∧ Rw.Bx w3 E #[u, c1, c2, c3, c4, c5] 25 ∧
      Rw.Bx (w3.setCell ⟨E, 0, none⟩ (.slice (some ⟨g, 0, none⟩) (l.length + 1) cap)) E #[.slice (some ⟨g, 0, none⟩) (l.length + 1) cap, c1, c2, c3, c4, c5] 25 ∧
      Rw.OwnK Rw.KR (w3.setCell ⟨E, 0, none⟩ (.slice (some ⟨g, 0, none⟩) (l.length + 1) cap)) B (.slice (some ⟨g, 0, none⟩) (l.length + 1) cap) (l ++ [x]) ∧ Below n0 wr (w3.setCell ⟨E, 0, none⟩ (.slice (some ⟨g, 0, none⟩) (l.length + 1) cap)) ∧
      B ≤ (w3.setCell ⟨E, 0, none⟩ (.slice (some ⟨g, 0, none⟩) (l.length + 1) cap)).heap.size ∧
      (∀ b, b < B → b ≠ E → (w3.setCell ⟨E, 0, none⟩ (.slice (some ⟨g, 0, none⟩) (l.length + 1) cap)).heap[b]? = wr.heap[b]?) := by
  obtain ⟨i0, hi, hz0, hz1, hz2⟩ := info_parts Rw.okR.info
  have hED : Rw.Bx wr.drew E #[u, c1, c2, c3, c4, c5] 25 := hE
  have hrow : Rw.OwnK Rw.KR wr.drew B u l := hl.bt (Nm.drewB (Below.refl _ _) 1)
  have hEl : E < wr.heap.size := by omega
  have hrowA : Rw.OwnK Rw.KR (wr.drew.alloc (.cells #[.int .i64 x.k, .string x.frm, .string x.to, .int .i64 x.cost] 52)) B u l := hrow.bt (Nm.al _ _)
  obtain ⟨v3, w3, hrun, hown, hgrow, _, hob⟩ := run_append_own_at (P := Tryz.prog) (w := wr.drew.alloc (.cells #[.int .i64 x.k, .string x.frm, .string x.to, .int .i64 x.cost] 52)) B 22 22 52 i0 Rw.KR.z 4 48 Tryz.underlying22 hi hz0 hz1 hz2 Rw.okR.zs (by decide) u l.length (l.flatMap Rw.KR.cs)
    hrowA ⟨wr.heap.size, 0, none⟩ 1 1 (Rw.KR.cs x) rfl (World.news_of_block (heap_alloc_new wr.drew _)) (Rw.okR.one x) (by unfold maxLen; omega) (by omega) (by simp; omega)
  obtain ⟨g, cap, rfl⟩ := ownsRow_succ hown
  have hszd : wr.drew.heap.size = wr.heap.size := rfl
  have hszA : (wr.drew.alloc (.cells #[.int .i64 x.k, .string x.frm, .string x.to, .int .i64 x.cost] 52)).heap.size = wr.heap.size + 1 := by simp [hszd]
  have hg3 := hgrow.size
  rw [hszA] at hg3
  have hl3 : Rw.OwnK Rw.KR w3 B (.slice (some ⟨g, 0, none⟩) (l.length + 1) cap) (l ++ [x]) := by
    unfold Rw.OwnK
    rw [List.length_append, List.flatMap_append, List.flatMap_cons, List.flatMap_nil, List.append_nil]
    exact hown
  have hgK : B ≤ g ∧ g < w3.heap.size := hl3.lt g rfl
  have hfar : ∀ b, b < B → u.ownBlock ≠ some b := fun b hb e => by
    have := (hl.lt b e).1
    omega
  have hkeep : ∀ b, b < wr.heap.size → u.ownBlock ≠ some b → w3.heap[b]? = wr.heap[b]? := fun b hb hne =>
    ((hgrow.block b (by rw [hszA]; omega) (fun e => hne e.symm)).trans (Below.heap_alloc wr.drew _ b hb))
  have hset : w3.grownBy (w3.setCell ⟨E, 0, none⟩ (.slice (some ⟨g, 0, none⟩) (l.length + 1) cap)) (some E) := ⟨rfl, rfl, rfl, by simp [World.setCell], fun k hk hne => by
    simp [World.setCell, Array.getElem?_modify]
    intro e
    exact absurd (congrArg some e.symm) hne⟩
  have hE3 : Rw.Bx w3 E #[u, c1, c2, c3, c4, c5] 25 := (hkeep E hEl (hfar E hEB)).trans hE
  refine ⟨g, cap, w3, hrun, hED.bt (Nm.al _ _), hE3, ?_, ?_, ?_, by have := hset.size; omega, fun b hb hne => ?_⟩
  · unfold Rw.Bx at hE3 ⊢
    simp [World.setCell, Array.getElem?_modify, hE3]
  · refine hl3.kept hset (.inr fun e => ?_)
    have : g = E := by simpa [Value.ownBlock] using e
    omega
  · refine Below.trans (b := w3) (((Below.refl n0 wr).drew.alloc (by omega) _).grown hgrow (by simp; omega) fun j hj => ?_) ((Below.refl _ _).grown hset (by omega) fun j hj => by cases hj; exact hn)
    by_cases hjB : j < B
    · exact absurd hj (hfar j hjB)
    · omega
  · exact (hset.block b (by omega) (by simpa using hne)).trans (hkeep b (by omega) (hfar b hb))
def Rw.anth (i : Nat) : ByteArray := (⟨#[97, 110, 116, 104]⟩ : ByteArray).extract i (i + 1)
def Rw.exS (i : Nat) : List Rw.Rl := (List.range i).map fun i => ⟨1, Rw.anth i, Rw.anth i, 0⟩
theorem Rw.anth_run (i : Nat) (h : i < 4) (w : World) : Sem.run Tryz.prog (Instr.slice 9 (.string ⟨#[97, 110, 116, 104]⟩) (some (.int .i64 (i : Int))) (some (.int .i64 (IntKind.i64.wrap ((i : Int) + 1)))) none) w = .ok (.string (Rw.anth i)) w := by
  have : i = 0 ∨ i = 1 ∨ i = 2 ∨ i = 3 := by omega
  rcases this with rfl | rfl | rfl | rfl <;> exact rfl
section
variable {α : Type} {K : Rw.Kd α}
/-- append, two elements. -/
theorem Rw.list_appendK2 (ok : K.Ok) {ops : Array Oper} {rest : List Oper} {o : Oper} {a : Act} {w : World} {Q : Exit → Act → World → Prop} (hgd : o.guard = none) (s x : Operand)
    (ho : o.op = .call { callee := .builtin .append, args := #[s, x], argTypes := #[K.S, K.S] }) (B : Nat) (v : Value) (l : List α) (hs : a.eval s = v) (hown : Rw.OwnK K w B v l) (b : Nat) (hx : a.eval x = .slice (some ⟨b, 0, none⟩) 2 2)
    (r q : α) (T : TypeId) (hb : w.heap[b]? = some (.cells (K.cs r ++ K.cs q).toArray T (0, 0))) (hl : l.length ≤ 1000000) (hB : B ≤ w.heap.size)
    (h : ∀ v' w', Rw.OwnK K w' B v' (l ++ [r, q]) → Below B w w' → wpList Tryz.prog ops Q rest (a.put o.dst v') w') : wpList Tryz.prog ops Q (o :: rest) a w := by
  obtain ⟨i0, hi, hz0, hz1, hz2⟩ := info_parts ok.info
  refine wpList_append_own_at w hgd s x K.S ho B K.T i0 _ K.m K.bs ok.under hi hz0 hz1 hz2 ok.zs ok.pos v l.length (l.flatMap K.cs) hs hown ⟨b, 0, none⟩ 2 2 (K.cs r ++ K.cs q) hx (by rw [List.length_append, ok.len, ok.len]; omega) (World.news_of_block hb) (fun u hu => by
    rcases List.mem_append.1 hu with hu | hu
    · exact ok.one r u hu
    · exact ok.one q u hu) (by unfold maxLen; omega) ?_ hB ?_
  · have := ok.few
    have : (l.length + 2) * K.bs ≤ 1000002 * 100 := Nat.mul_le_mul (by omega) this
    omega
  · intro v' w' hown' hg _ _
    refine h _ w' ?_ ?_
    · unfold Rw.OwnK
      rw [List.length_append, List.flatMap_append, List.flatMap_cons, List.flatMap_cons, List.flatMap_nil, List.append_nil]
      exact hown'
    · exact (Below.refl _ _).grown hg hB (fun k hk => (Rw.OwnK.lt hown k hk).1)
end
theorem Rw.OwnK.set {α : Type} {K : Rw.Kd α} {w : World} {B : Nat} {v : Value} {l : List α} (h : Rw.OwnK K w B v l) (p : Addr) (hp : p.block < B) (x : Value) : Rw.OwnK K (w.setCell p x) B v l := by
  have hset : w.grownBy (w.setCell p x) (some p.block) := ⟨rfl, rfl, rfl, by simp [World.setCell], fun k hk hne => by
    simp [World.setCell, Array.getElem?_modify]
    intro e
    exact absurd (congrArg some e.symm) hne⟩
  refine h.kept hset ?_
  cases hb : v.ownBlock with
  | none => exact .inl rfl
  | some g =>
    refine .inr fun e => ?_
    have := (h.lt g hb).1
    cases e
    omega
theorem Rw.set_ne (w : World) (p : Addr) (x : Value) (b : Nat) (h : b ≠ p.block) : (w.setCell p x).heap[b]? = w.heap[b]? := by
  simp [World.setCell, Array.getElem?_modify]
  intro e
  exact absurd e.symm h
theorem Rw.Bx.put {w : World} {E i : Nat} {cs : Array Value} {T : TypeId} (h : Rw.Bx w E cs T) (x : Value) : Rw.Bx (w.setCell ⟨E, i, none⟩ x) E (cs.setIfInBounds i x) T := by
  unfold Rw.Bx at h ⊢
  simp [World.setCell, Array.getElem?_modify, h]
theorem Rw.Bx.putFar {w : World} {E : Nat} {cs : Array Value} {T : TypeId} (h : Rw.Bx w E cs T) (p : Addr) (hp : E ≠ p.block) (x : Value) : Rw.Bx (w.setCell p x) E cs T := (Rw.set_ne w p x E hp).trans h
theorem Rw.infoT : (Tryz.prog.info? 25).map (·.size) = some 6 := by kernel_rfl
theorem Rw.Dps.one {w : World} {g : Nat} {T : TypeId} {d : Rw.Dp} (h : w.heap[g]? = some (.cells #[.int .i64 d.k, .string d.word, .int .i64 d.cost] T (0, 0))) : Rw.Dps w w.heap.size (some ⟨g, 0, none⟩) [d] := fun k hk => by
  obtain rfl : k = 0 := by simpa using hk
  have hb : Rw.Bx w g _ _ := h
  exact ⟨_, rfl, (Array.getElem?_eq_some_iff.1 h).1, hb.c 0 _ rfl, hb.c 1 _ rfl, hb.c 2 _ rfl⟩
def Rw.exR : List Rw.Rl := Rw.exS 4 ++ [⟨1, ⟨#[110, 110]⟩, ⟨#[110]⟩, 1⟩, ⟨1, ⟨#[116, 104]⟩, ⟨#[116]⟩, 2⟩]
theorem Rw.exR_good : Rw.AllRl Rw.exR := fun x hx => by
  have hx' : x = ⟨1, Rw.anth 0, Rw.anth 0, 0⟩ ∨ x = ⟨1, Rw.anth 1, Rw.anth 1, 0⟩ ∨ x = ⟨1, Rw.anth 2, Rw.anth 2, 0⟩ ∨ x = ⟨1, Rw.anth 3, Rw.anth 3, 0⟩ ∨ x = ⟨1, ⟨#[110, 110]⟩, ⟨#[110]⟩, 1⟩ ∨ x = ⟨1, ⟨#[116, 104]⟩, ⟨#[116]⟩, 2⟩ := by
    simp [Rw.exR, Rw.exS, List.range_succ] at hx
    simpa [or_assoc] using hx
  rcases hx' with rfl | rfl | rfl | rfl | rfl | rfl <;> exact ⟨by decide, by decide +kernel, by decide +kernel, by decide⟩
theorem Rw.table_any (w : World) : Calls Tryz.prog 35 #[] w fun e w' => ∃ t : Rw.TV, e = .returned t.val ∧ t.In w' ∧ t.R = Rw.exR ∧ t.D = [⟨1, ⟨#[97, 108]⟩, 1⟩] ∧ t.E = [⟨1, ⟨#[97]⟩, 3⟩] ∧ t.d = 4 ∧ t.o = 2 ∧ t.i = 1 ∧ Below w.heap.size w w' := by
  go_enter Tryz.func35, Tryz.ntmps35
  go_wp2_with fail
  have z1 := heap_alloc_new (w.alloc (Obj.cells #[.slice none 0 0, .slice none 0 0, .slice none 0 0, .int .i64 0, .int .i64 0, .int .i64 0] 25)) (.cells #[.int .i64 1, .string ⟨#[97, 108]⟩, .int .i64 1] 63)
  have z2 := heap_alloc_new ((w.alloc (Obj.cells #[.slice none 0 0, .slice none 0 0, .slice none 0 0, .int .i64 0, .int .i64 0, .int .i64 0] 25)).alloc (.cells #[.int .i64 1, .string ⟨#[97, 108]⟩, .int .i64 1] 63)) (.cells #[.int .i64 1, .string ⟨#[97]⟩, .int .i64 3] 63)
  have z0 := heap_alloc_new w (Obj.cells #[.slice none 0 0, .slice none 0 0, .slice none 0 0, .int .i64 0, .int .i64 0, .int .i64 0] 25)
  have q1 := Nm.al w (Obj.cells #[.slice none 0 0, .slice none 0 0, .slice none 0 0, .int .i64 0, .int .i64 0, .int .i64 0] 25)
  have q2 := Nm.al (w.alloc (Obj.cells #[.slice none 0 0, .slice none 0 0, .slice none 0 0, .int .i64 0, .int .i64 0, .int .i64 0] 25)) (.cells #[.int .i64 1, .string ⟨#[97, 108]⟩, .int .i64 1] 63)
  have q3 := Nm.al ((w.alloc (Obj.cells #[.slice none 0 0, .slice none 0 0, .slice none 0 0, .int .i64 0, .int .i64 0, .int .i64 0] 25)).alloc (.cells #[.int .i64 1, .string ⟨#[97, 108]⟩, .int .i64 1] 63)) (.cells #[.int .i64 1, .string ⟨#[97]⟩, .int .i64 3] 63)
  obtain ⟨V3, hV3⟩ : ∃ V3, ((w.alloc (Obj.cells #[.slice none 0 0, .slice none 0 0, .slice none 0 0, .int .i64 0, .int .i64 0, .int .i64 0] 25)).alloc (.cells #[.int .i64 1, .string ⟨#[97, 108]⟩, .int .i64 1] 63)).alloc (.cells #[.int .i64 1, .string ⟨#[97]⟩, .int .i64 3] 63) = V3 := ⟨_, rfl⟩
  have hs3 : V3.heap.size = w.heap.size + 1 + 1 + 1 := by rw [← hV3]; simp
  have y0 : V3.heap[w.heap.size]? = some (.cells #[.slice none 0 0, .slice none 0 0, .slice none 0 0, .int .i64 0, .int .i64 0, .int .i64 0] 25 (0, 0)) := by
    rw [← hV3]
    exact ((q3.block _ (by simp; omega)).trans (q2.block _ (by simp))).trans z0
  have y1 : V3.heap[w.heap.size + 1]? = some (.cells #[.int .i64 1, .string ⟨#[97, 108]⟩, .int .i64 1] 63 (0, 0)) := by
    rw [← hV3]
    refine (q3.block _ (by simp)).trans ?_
    rw [World.size_alloc] at z1
    exact z1
  have y2 : V3.heap[w.heap.size + 1 + 1]? = some (.cells #[.int .i64 1, .string ⟨#[97]⟩, .int .i64 3] 63 (0, 0)) := by
    rw [← hV3]
    rw [World.size_alloc, World.size_alloc] at z2
    exact z2
  have hb3 : Below w.heap.size w V3 := by
    rw [← hV3]
    exact Nm.Nb (Nm.Nb q1 q2) q3
  rw [hV3]
  have HB := Lib.hid (Nm.Nb hb3 (Nm.al V3 (.cells #[.slice none 0 0, .slice (some ⟨w.heap.size + 1, 0, none⟩) 1 1, .slice (some ⟨w.heap.size + 1 + 1, 0, none⟩) 1 1, .int .i64 4, .int .i64 2, .int .i64 1] 25)))
  have x3 : Rw.Bx (V3.alloc (.cells #[.slice none 0 0, .slice (some ⟨w.heap.size + 1, 0, none⟩) 1 1, .slice (some ⟨w.heap.size + 1 + 1, 0, none⟩) 1 1, .int .i64 4, .int .i64 2, .int .i64 1] 25)) (w.heap.size + 1 + 1 + 1) #[.slice none 0 0, .slice (some ⟨w.heap.size + 1, 0, none⟩) 1 1, .slice (some ⟨w.heap.size + 1 + 1, 0, none⟩) 1 1, .int .i64 4, .int .i64 2, .int .i64 1] 25 := by
    rw [← hs3]
    exact heap_alloc_new _ _
  have qq := Nm.al V3 (.cells #[.slice none 0 0, .slice (some ⟨w.heap.size + 1, 0, none⟩) 1 1, .slice (some ⟨w.heap.size + 1 + 1, 0, none⟩) 1 1, .int .i64 4, .int .i64 2, .int .i64 1] 25)
  have x0 := (qq.block _ (by omega)).trans y0
  have x1 := (qq.block _ (by omega)).trans y1
  have x2 := (qq.block _ (by omega)).trans y2
  have hsV : (V3.alloc (.cells #[.slice none 0 0, .slice (some ⟨w.heap.size + 1, 0, none⟩) 1 1, .slice (some ⟨w.heap.size + 1 + 1, 0, none⟩) 1 1, .int .i64 4, .int .i64 2, .int .i64 1] 25)).heap.size = w.heap.size + 4 := by simp; omega
  generalize V3.alloc (.cells #[.slice none 0 0, .slice (some ⟨w.heap.size + 1, 0, none⟩) 1 1, .slice (some ⟨w.heap.size + 1 + 1, 0, none⟩) 1 1, .int .i64 4, .int .i64 2, .int .i64 1] 25) = V at *
  have HX := Lib.hid (And.intro x0 (And.intro x1 x2))
  have HE := Lib.hid x3
  have HSV := Lib.hid hsV
  clear x0 x1 x2 x3 hsV z0 z1 z2 q1 q2 q3 y0 y1 y2 hb3 hs3 hV3 qq
  generalize hE0 : w.heap.size + 1 + 1 + 1 = E at *
  have HEE := Lib.hid hE0
  clear hE0
  go_loopw [2] (fun s2 wr => ∃ (i : Nat) (u : Value), i ≤ 4 ∧ s2 = .int .i64 (i : Int) ∧ Hid (Rw.Bx wr E #[u, .slice (some ⟨w.heap.size + 1, 0, none⟩) 1 1, .slice (some ⟨w.heap.size + 1 + 1, 0, none⟩) 1 1, .int .i64 4, .int .i64 2, .int .i64 1] 25) ∧
    Hid (Rw.OwnK Rw.KR wr (w.heap.size + 4) u (Rw.exS i)) ∧ Hid (w.heap.size + 4 ≤ wr.heap.size) ∧ Hid (∀ b, b < w.heap.size + 4 → b ≠ E → wr.heap[b]? = V.heap[b]?) ∧ Hid (Below w.heap.size w wr)) (fun s2 _ => 4 - (intOf s2).toNat)
  case atStart => exact ⟨0, .slice none 0 0, by omega, rfl, HE, Lib.hid (Rw.OwnK.nil _ _), Lib.hid (by rw [HSV.out]; exact Nat.le_refl _), Lib.hid (fun _ _ _ => rfl), HB⟩
  case round =>
    obtain ⟨i, u, hi, rfl, HE1, HO1, HS1, HK1, HB1⟩ := hrel
    clear HE HB
    by_cases hlt : i < 4
    · have hlti : (i : Int) < 4 := by omega
      have hi0 : (0 : Int) ≤ (i : Int) := by omega
      have hi1 : (i : Int) ≤ (i : Int) + 1 := by omega
      have hi2 : (i : Int) + 1 ≤ 4 := by omega
      obtain ⟨g, cap, w3, hrun, s1, s2, s3, s4, s5, s6, s7⟩ := Rw.tab_round wr E (w.heap.size + 4) w.heap.size u _ _ _ _ _ (Rw.exS i) ⟨1, Rw.anth i, Rw.anth i, 0⟩ HE1.out HO1.out (by have := HEE.out; omega) (by have := HEE.out; omega) HS1.out (by simp [Rw.exS]; omega)
      have hl : (Rw.exS i).length = i := by simp [Rw.exS]
      rw [hl] at hrun s3 s4 s5 s6 s7
      have h4 : Rw.exS (i + 1) = Rw.exS i ++ [⟨1, Rw.anth i, Rw.anth i, 0⟩] := by simp [Rw.exS, List.range_succ]
      have HN1 := Lib.hid s3
      have HN2 := Lib.hid (show Rw.OwnK Rw.KR _ _ _ (Rw.exS (i + 1)) from by rw [h4]; exact s4)
      have HN3 := Lib.hid (HB1.out.trans s5)
      have HN4 := Lib.hid s6
      have HN5 := Lib.hid (fun b (hb : b < w.heap.size + 4) (hne : b ≠ E) => (s7 b hb hne).trans (HK1.out b hb hne))
      have c0 : wr.drew.cell? ⟨E, 0, none⟩ = some u := HE1.out.c 0 _ rfl
      have sa : (wr.alloc (.cells #[.int .i64 1, .string (Rw.anth i), .string (Rw.anth i), .int .i64 0] 52)).drew.cell? ⟨E, 0, none⟩ = some u := s1.c 0 _ rfl
      have sb := s2.c 0 _ rfl
      have sf := s2.f 0
      replace hrun : (Builtin.append_ #[22, 22] 22 #[u, .slice (some ⟨wr.heap.size, 0, none⟩) 1 1]).run Tryz.prog (wr.alloc (.cells #[.int .i64 1, .string (Rw.anth i), .string (Rw.anth i), .int .i64 0] 52)).drew = .ok (.slice (some ⟨g, 0, none⟩) (i + 1) cap) w3 := hrun
      have han := Rw.anth_run i hlt
      clear s1 s2 s3 s4 s5 s6 s7 hl h4
      go_wp2_with fail
      refine wp_region_held_drew (S := fun _ => True) (by kernel_rfl) trivial (fun hH => ?_)
      refine wpAnyH_take (i := 0) (v := ?v0) rfl (by kernel_rfl) (by kernel_rfl) (by kernel_rfl) (fun _ _ _ h => h) (Or.inl ⟨by rfl, ?hy0⟩) hH ?rest0
      case hy0 =>
        intro w' hSw
        go_simp
        try with_reducible rfl
      try simp only [Act.put, List.setIfInBounds_toArray, List.set_cons_zero, List.set_cons_succ]
      refine wpAnyH_take (i := 2) (v := ?v2) rfl (by kernel_rfl) (by kernel_rfl) (by kernel_rfl) (fun _ _ _ h => h) (Or.inl ⟨by rfl, ?hy2⟩) hH ?rest2
      case hy2 =>
        intro w' hSw
        go_simp
        try with_reducible rfl
      try simp only [Act.put, List.setIfInBounds_toArray, List.set_cons_zero, List.set_cons_succ]
      refine wpAnyH_take (i := 3) (v := ?v3) rfl (by kernel_rfl) (by kernel_rfl) (by kernel_rfl) (fun _ _ _ h => h) (Or.inl ⟨by rfl, ?hy3⟩) hH ?rest3
      case hy3 =>
        intro w' hSw
        go_simp
        try with_reducible rfl
      try simp only [Act.put, List.setIfInBounds_toArray, List.set_cons_zero, List.set_cons_succ]
      refine wpAnyH_take (i := 4) (v := ?v4) rfl (by kernel_rfl) (by kernel_rfl) (by kernel_rfl) (fun _ _ _ h => h) (Or.inl ⟨by rfl, ?hy4⟩) hH ?rest4
      case hy4 =>
        intro w' hSw
        go_simp
        try with_reducible rfl
      try simp only [Act.put, List.setIfInBounds_toArray, List.set_cons_zero, List.set_cons_succ]
      refine wpAnyH_take (i := 5) (v := ?v5) rfl (by kernel_rfl) (by kernel_rfl) (by kernel_rfl) (fun _ _ _ h => h) (Or.inl ⟨by rfl, ?hy5⟩) hH ?rest5
      case hy5 =>
        intro w' hSw
        go_simp
        try with_reducible rfl
      try simp only [Act.put, List.setIfInBounds_toArray, List.set_cons_zero, List.set_cons_succ]
      refine wpAnyH_take (i := 6) (v := ?v6) rfl (by kernel_rfl) (by kernel_rfl) (by kernel_rfl) (fun _ _ _ h => h) (Or.inl ⟨by rfl, ?hy6⟩) hH ?rest6
      case hy6 =>
        intro w' hSw
        go_simp
        try with_reducible rfl
      try simp only [Act.put, List.setIfInBounds_toArray, List.set_cons_zero, List.set_cons_succ]
      refine wpAnyH_take (i := 7) (v := ?v7) rfl (by kernel_rfl) (by kernel_rfl) (by kernel_rfl) (fun _ _ _ h => h) (Or.inl ⟨by rfl, ?hy7⟩) hH ?rest7
      case hy7 =>
        intro w' hSw
        go_simp
        try with_reducible rfl
      try simp only [Act.put, List.setIfInBounds_toArray, List.set_cons_zero, List.set_cons_succ]
      refine wpAnyH_take (i := 8) (v := ?v8) rfl (by kernel_rfl) (by kernel_rfl) (by kernel_rfl) (fun _ _ _ h => h) (Or.inl ⟨by rfl, ?hy8⟩) hH ?rest8
      case hy8 =>
        intro w' hSw
        go_simp
        try with_reducible rfl
      try simp only [Act.put, List.setIfInBounds_toArray, List.set_cons_zero, List.set_cons_succ]
      refine wpAnyH_take (i := 9) (v := ?v9) rfl (by kernel_rfl) (by kernel_rfl) (by kernel_rfl) (fun _ _ _ h => h) (Or.inl ⟨by rfl, ?hy9⟩) hH ?rest9
      case hy9 =>
        intro w' hSw
        go_simp
        try with_reducible rfl
      try simp only [Act.put, List.setIfInBounds_toArray, List.set_cons_zero, List.set_cons_succ]
      refine wpAnyH_take (i := 10) (v := ?v10) rfl (by kernel_rfl) (by kernel_rfl) (by kernel_rfl) (fun _ _ _ h => h) (Or.inl ⟨by rfl, ?hy10⟩) hH ?rest10
      case hy10 =>
        intro w' hSw
        go_simp
        try with_reducible rfl
      try simp only [Act.put, List.setIfInBounds_toArray, List.set_cons_zero, List.set_cons_succ]
      refine wpAnyH_ready (rs := [1, 11]) (by kernel_rfl) (by simp) ?_
      refine AllReadyH.cons (i := 1) rfl (fun K hK => ?_) (AllReadyH.cons (i := 11) rfl (fun K hK => ?_) (AllReadyH.nil))
      · go_simp
        refine hK.out _ _ trivial (fun hH => ?_)
        try simp only [Act.put, List.setIfInBounds_toArray, List.set_cons_zero, List.set_cons_succ]
        refine wpAnyH_ready (rs := [11]) (by kernel_rfl) (by simp) ?_
        refine AllReadyH.cons (i := 11) rfl (fun K hK => ?_) (AllReadyH.nil)
        go_simp
        refine hK.out _ _ trivial (fun hH => ?_)
        try simp only [Act.put, List.setIfInBounds_toArray, List.set_cons_zero, List.set_cons_succ]
        refine wpAnyH_ready (rs := [12]) (by kernel_rfl) (by simp) ?_
        refine AllReadyH.cons (i := 12) rfl (fun K hK => ?_) (AllReadyH.nil)
        go_simp
        refine hK.out _ _ trivial (fun hH => ?_)
        try simp only [Act.put, List.setIfInBounds_toArray, List.set_cons_zero, List.set_cons_succ]
        refine wpAnyH_take (i := 13) (v := ?v13a) rfl (by kernel_rfl) (by kernel_rfl) (by kernel_rfl) (fun _ _ _ h => h) (Or.inl ⟨by rfl, ?hy13a⟩) hH ?rest13a
        case hy13a =>
          intro w' hSw
          go_simp
          try with_reducible rfl
        try simp only [Act.put, List.setIfInBounds_toArray, List.set_cons_zero, List.set_cons_succ]
        refine wpAnyH_ready (rs := [14]) (by kernel_rfl) (by simp) ?_
        refine AllReadyH.cons (i := 14) rfl (fun K hK => ?_) (AllReadyH.nil)
        go_simp
        refine hK.out _ _ trivial (fun hH => ?_)
        try simp only [Act.put, List.setIfInBounds_toArray, List.set_cons_zero, List.set_cons_succ]
        refine wpAnyH_done (by kernel_rfl) ?_ _
        go_wp2_with fail
        go_roundw
        case rel => exact ⟨i + 1, _, by omega, by go_num, HN1, HN2, HN4, HN5, HN3⟩
        case measure => simp [intOf]; omega
      · go_simp
        refine hK.out _ _ trivial (fun hH => ?_)
        try simp only [Act.put, List.setIfInBounds_toArray, List.set_cons_zero, List.set_cons_succ]
        refine wpAnyH_ready (rs := [1]) (by kernel_rfl) (by simp) ?_
        refine AllReadyH.cons (i := 1) rfl (fun K hK => ?_) (AllReadyH.nil)
        go_simp
        refine hK.out _ _ trivial (fun hH => ?_)
        try simp only [Act.put, List.setIfInBounds_toArray, List.set_cons_zero, List.set_cons_succ]
        refine wpAnyH_ready (rs := [12]) (by kernel_rfl) (by simp) ?_
        refine AllReadyH.cons (i := 12) rfl (fun K hK => ?_) (AllReadyH.nil)
        go_simp
        refine hK.out _ _ trivial (fun hH => ?_)
        try simp only [Act.put, List.setIfInBounds_toArray, List.set_cons_zero, List.set_cons_succ]
        refine wpAnyH_take (i := 13) (v := ?v13b) rfl (by kernel_rfl) (by kernel_rfl) (by kernel_rfl) (fun _ _ _ h => h) (Or.inl ⟨by rfl, ?hy13b⟩) hH ?rest13b
        case hy13b =>
          intro w' hSw
          go_simp
          try with_reducible rfl
        try simp only [Act.put, List.setIfInBounds_toArray, List.set_cons_zero, List.set_cons_succ]
        refine wpAnyH_ready (rs := [14]) (by kernel_rfl) (by simp) ?_
        refine AllReadyH.cons (i := 14) rfl (fun K hK => ?_) (AllReadyH.nil)
        go_simp
        refine hK.out _ _ trivial (fun hH => ?_)
        try simp only [Act.put, List.setIfInBounds_toArray, List.set_cons_zero, List.set_cons_succ]
        refine wpAnyH_done (by kernel_rfl) ?_ _
        go_wp2_with fail
        go_roundw
        case rel => exact ⟨i + 1, _, by omega, by go_num, HN1, HN2, HN4, HN5, HN3⟩
        case measure => simp [intOf]; omega
    · obtain rfl : i = 4 := by omega
      rw [show ((4 : Nat) : Int) = 4 from rfl]
      have c0 : wr.cell? ⟨E, 0, none⟩ = some u := HE1.out.c 0 _ rfl
      have g4 := Nm.al wr (.cells #[.int .i64 1, .string ⟨#[110, 110]⟩, .string ⟨#[110]⟩, .int .i64 1, .int .i64 1, .string ⟨#[116, 104]⟩, .string ⟨#[116]⟩, .int .i64 2] 52)
      have HO5 := Lib.hid (HO1.out.bt g4)
      have HNW : Hid ((wr.alloc (.cells #[.int .i64 1, .string ⟨#[110, 110]⟩, .string ⟨#[110]⟩, .int .i64 1, .int .i64 1, .string ⟨#[116, 104]⟩, .string ⟨#[116]⟩, .int .i64 2] 52)).heap[wr.heap.size]? = some (.cells (Rw.KR.cs ⟨1, ⟨#[110, 110]⟩, ⟨#[110]⟩, 1⟩ ++ Rw.KR.cs ⟨1, ⟨#[116, 104]⟩, ⟨#[116]⟩, 2⟩).toArray 52 (0, 0))) := Lib.hid (heap_alloc_new _ _)
      have HL : Hid ((Rw.exS 4).length ≤ 1000000) := Lib.hid (by simp [Rw.exS])
      have HS2 : Hid (w.heap.size + 4 ≤ (wr.alloc (.cells #[.int .i64 1, .string ⟨#[110, 110]⟩, .string ⟨#[110]⟩, .int .i64 1, .int .i64 1, .string ⟨#[116, 104]⟩, .string ⟨#[116]⟩, .int .i64 2] 52)).heap.size) := Lib.hid (by simp only [World.size_alloc]; exact Nat.le_succ_of_le HS1.out)
      have HB2 := Lib.hid (HB1.out.trans (g4.mono HB1.out.size))
      have HBX := Lib.hid (And.intro (HE1.out.bt g4) (And.intro ((g4.block _ (by have := HS1.out; omega)).trans ((HK1.out w.heap.size (by omega) (by have := HEE.out; omega)).trans HX.out.1))
        (And.intro ((g4.block _ (by have := HS1.out; omega)).trans ((HK1.out (w.heap.size + 1) (by omega) (by have := HEE.out; omega)).trans HX.out.2.1)) ((g4.block _ (by have := HS1.out; omega)).trans ((HK1.out (w.heap.size + 1 + 1) (by omega) (by have := HEE.out; omega)).trans HX.out.2.2)))))
      clear g4
      go_wp2_with (first
        | (at_builtin
           refine Rw.list_appendK2 Rw.okR rfl (.tmp 27) (.tmp 30) rfl (w.heap.size + 4) u (Rw.exS 4) rfl HO5.out wr.heap.size rfl ⟨1, ⟨#[110, 110]⟩, ⟨#[110]⟩, 1⟩ ⟨1, ⟨#[116, 104]⟩, ⟨#[116]⟩, 2⟩ _ HNW.out HL.out HS2.out ?_
           intro v2 w2 o2 g2
           have hE2 : Rw.Bx w2 E _ _ := HBX.out.1.below g2 (by have := HEE.out; omega)
           have e0 : w2.cell? ⟨E, 0, none⟩ = some u := hE2.c 0 _ rfl
           have e1 : w2.cell? ⟨E, 1, none⟩ = some (.slice (some ⟨w.heap.size + 1, 0, none⟩) 1 1) := hE2.c 1 _ rfl
           have e2 : w2.cell? ⟨E, 2, none⟩ = some (.slice (some ⟨w.heap.size + 1 + 1, 0, none⟩) 1 1) := hE2.c 2 _ rfl
           have e3 : w2.cell? ⟨E, 3, none⟩ = some (.int .i64 4) := hE2.c 3 _ rfl
           have e4 : w2.cell? ⟨E, 4, none⟩ = some (.int .i64 2) := hE2.c 4 _ rfl
           have e5 : w2.cell? ⟨E, 5, none⟩ = some (.int .i64 1) := hE2.c 5 _ rfl
           have ef := hE2.f
           have hN2 : Rw.Bx w2 w.heap.size _ _ := Rw.Bx.below HBX.out.2.1 g2 (by omega)
           have n0 : w2.cell? ⟨w.heap.size, 0, none⟩ = some (.slice none 0 0) := hN2.c 0 _ rfl
           have n1 : w2.cell? ⟨w.heap.size, 1, none⟩ = some (.slice none 0 0) := hN2.c 1 _ rfl
           have n2 : w2.cell? ⟨w.heap.size, 2, none⟩ = some (.slice none 0 0) := hN2.c 2 _ rfl
           have n3 : w2.cell? ⟨w.heap.size, 3, none⟩ = some (.int .i64 0) := hN2.c 3 _ rfl
           have n4 : w2.cell? ⟨w.heap.size, 4, none⟩ = some (.int .i64 0) := hN2.c 4 _ rfl
           have n5 : w2.cell? ⟨w.heap.size, 5, none⟩ = some (.int .i64 0) := hN2.c 5 _ rfl
           have nf := hN2.f
           have HD1 := Lib.hid (And.intro ((g2.block _ (by omega)).trans HBX.out.2.2.1) ((g2.block _ (by omega)).trans HBX.out.2.2.2))
           have hne : w.heap.size ≠ E := by have := HEE.out; omega
           have hne2 : E ≠ w.heap.size := fun e => hne e.symm
           obtain ⟨LL, hLL⟩ : ∃ LL, Rw.exS 4 ++ [⟨1, ⟨#[110, 110]⟩, ⟨#[110]⟩, 1⟩, ⟨1, ⟨#[116, 104]⟩, ⟨#[116]⟩, 2⟩] = LL := ⟨_, rfl⟩
           rw [hLL] at o2
           obtain ⟨A2, c2, rfl, r2, b2, m2⟩ := o2.rls
           obtain ⟨nn, hnn⟩ : ∃ nn, LL.length = nn := ⟨_, rfl⟩
           rw [hnn] at b2 o2
           rw [hnn]
           have HO2 := Lib.hid (And.intro hLL (And.intro hnn (And.intro o2 (And.intro b2 m2))))
           clear hLL hnn r2 b2 m2
           have HG2 := Lib.hid (HB2.out.trans (g2.mono (by omega)))
           have HE2 := Lib.hid hE2
           have HN2 := Lib.hid hN2
           clear o2 g2 hE2 hN2 HO5 HNW HL HS2 HBX HB2)
        | fail)
      obtain ⟨hLL, hnn, o2, b2, m2⟩ := HO2.out
      obtain ⟨d1, d2⟩ := HD1.out
      have hEE := HEE.out
      have oW := ((((((o2.set ⟨E, 0, none⟩ (by simp; omega) (.slice A2 nn c2)).set ⟨w.heap.size, 0, none⟩ (by simp) (.slice A2 nn c2)).set ⟨w.heap.size, 1, none⟩ (by simp) (.slice (some ⟨w.heap.size + 1, 0, none⟩) 1 1)).set ⟨w.heap.size, 2, none⟩ (by simp) (.slice (some ⟨w.heap.size + 1 + 1, 0, none⟩) 1 1)).set ⟨w.heap.size, 3, none⟩ (by simp) (.int .i64 4)).set ⟨w.heap.size, 4, none⟩ (by simp) (.int .i64 2)).set ⟨w.heap.size, 5, none⟩ (by simp) (.int .i64 1)
      have gW := ((((((HG2.out.setCell (p := ⟨E, 0, none⟩) (by simp; omega) (.slice A2 nn c2)).setCell (p := ⟨w.heap.size, 0, none⟩) (Nat.le_refl _) (.slice A2 nn c2)).setCell (p := ⟨w.heap.size, 1, none⟩) (Nat.le_refl _) (.slice (some ⟨w.heap.size + 1, 0, none⟩) 1 1)).setCell (p := ⟨w.heap.size, 2, none⟩) (Nat.le_refl _) (.slice (some ⟨w.heap.size + 1 + 1, 0, none⟩) 1 1)).setCell (p := ⟨w.heap.size, 3, none⟩) (Nat.le_refl _) (.int .i64 4)).setCell (p := ⟨w.heap.size, 4, none⟩) (Nat.le_refl _) (.int .i64 2)).setCell (p := ⟨w.heap.size, 5, none⟩) (Nat.le_refl _) (.int .i64 1)
      have hW : ∀ b, b ≠ E → b ≠ w.heap.size → (((((((w2.setCell ⟨E, 0, none⟩ (.slice A2 nn c2)).setCell ⟨w.heap.size, 0, none⟩ (.slice A2 nn c2)).setCell ⟨w.heap.size, 1, none⟩ (.slice (some ⟨w.heap.size + 1, 0, none⟩) 1 1)).setCell ⟨w.heap.size, 2, none⟩ (.slice (some ⟨w.heap.size + 1 + 1, 0, none⟩) 1 1)).setCell ⟨w.heap.size, 3, none⟩ (.int .i64 4)).setCell ⟨w.heap.size, 4, none⟩ (.int .i64 2)).setCell ⟨w.heap.size, 5, none⟩ (.int .i64 1)).heap[b]? = w2.heap[b]? := fun b h1 h2 => by
        rw [Rw.set_ne _ _ _ _ h2, Rw.set_ne _ _ _ _ h2, Rw.set_ne _ _ _ _ h2, Rw.set_ne _ _ _ _ h2, Rw.set_ne _ _ _ _ h2, Rw.set_ne _ _ _ _ h2, Rw.set_ne _ _ _ _ h1]
      have p1 := (hW (w.heap.size + 1) (by omega) (by omega)).trans d1
      have p2 := (hW (w.heap.size + 1 + 1) (by omega) (by omega)).trans d2
      clear hW
      have bW := (((((((HN2.out.putFar ⟨E, 0, none⟩ hne (.slice A2 nn c2)).put (i := 0) (.slice A2 nn c2)).put (i := 1) (.slice (some ⟨w.heap.size + 1, 0, none⟩) 1 1)).put (i := 2) (.slice (some ⟨w.heap.size + 1 + 1, 0, none⟩) 1 1)).put (i := 3) (.int .i64 4)).put (i := 4) (.int .i64 2)).put (i := 5) (.int .i64 1))
      simp only [List.setIfInBounds_toArray, List.set_cons_zero, List.set_cons_succ] at bW
      refine bodyPost_ret (results_cell_row rfl _ _ w.heap.size 25 #[.slice A2 nn c2, .slice (some ⟨w.heap.size + 1, 0, none⟩) 1 1, .slice (some ⟨w.heap.size + 1 + 1, 0, none⟩) 1 1, .int .i64 4, .int .i64 2, .int .i64 1] (0, 0) _ rfl bW Tryz.underlying25 rfl Rw.infoT) rfl ?_
      clear bW
      generalize ((((((w2.setCell ⟨E, 0, none⟩ (.slice A2 nn c2)).setCell ⟨w.heap.size, 0, none⟩ (.slice A2 nn c2)).setCell ⟨w.heap.size, 1, none⟩ (.slice (some ⟨w.heap.size + 1, 0, none⟩) 1 1)).setCell ⟨w.heap.size, 2, none⟩ (.slice (some ⟨w.heap.size + 1 + 1, 0, none⟩) 1 1)).setCell ⟨w.heap.size, 3, none⟩ (.int .i64 4)).setCell ⟨w.heap.size, 4, none⟩ (.int .i64 2)).setCell ⟨w.heap.size, 5, none⟩ (.int .i64 1) = WW at *
      have oW' : Rw.OwnK Rw.KR WW (w.heap.size + 4) (.slice A2 LL.length c2) LL := by rw [hnn]; exact oW
      obtain ⟨A', c', e', rls', _, _⟩ := Rw.OwnK.rls oW'
      simp only [Value.slice.injEq] at e'
      obtain ⟨rfl, _, rfl⟩ := e'
      refine ⟨⟨A2, c2, some ⟨w.heap.size + 1, 0, none⟩, 1, some ⟨w.heap.size + 1 + 1, 0, none⟩, 1, LL, [⟨1, ⟨#[97, 108]⟩, 1⟩], [⟨1, ⟨#[97]⟩, 3⟩], 4, 2, 1⟩, ?_, ⟨rls', Rw.Dps.one (d := ⟨1, ⟨#[97, 108]⟩, 1⟩) p1, Rw.Dps.one (d := ⟨1, ⟨#[97]⟩, 3⟩) p2, ?_, ?_, ?_, by simp only [hnn]; exact b2, by simp, by simp, m2, by simp [maxLen], by simp [maxLen]⟩, hLL.symm, rfl, rfl, rfl, rfl, rfl, gW⟩
      · simp [Rw.TV.val, hnn]
      · show Rw.AllRl LL
        rw [← hLL]
        exact Rw.exR_good
      · intro x hx
        obtain rfl : x = _ := List.mem_singleton.1 hx
        exact ⟨by decide, by decide, by decide⟩
      · intro x hx
        obtain rfl : x = _ := List.mem_singleton.1 hx
        exact ⟨by decide, by decide, by decide⟩
end Go.Proofs.YtkddpealobeleaaGreatDoor
