/- The zone that ClockEast makes: its mathematics, and a list of shifts that the call has made itself (layer 6). -/
import Derived.Test.YtkkgefefbamcpaaDoorClGoW
import Derived.Test.YtkkgefefbamcpaaDoorClO
import Derived.Maps.AppendAt
import Derived.Deep.RegionHeld3
set_option linter.unusedSimpArgs false
set_option linter.unusedVariables false
namespace Go.Proofs.YtkkgefefbamcpaaDoor
open Go.RowKit
set_option maxRecDepth 100000

/-! ### the zone that lies K minutes east -/
def Cl.ea (K : Int) (zs : List Cl.Sh) : List Cl.Sh := zs.map fun p => (p.1, p.2 + K)
def Cl.eaS (K : Int) (l : List Cl.Sp) : List Cl.Sp := l.map fun x => (x.1, x.2.1 + K, x.2.2)
theorem Cl.ea_length (K : Int) (zs : List Cl.Sh) : (Cl.ea K zs).length = zs.length := by simp [Cl.ea]
theorem Cl.sp_ea (K : Int) : ∀ zs : List Cl.Sh, Cl.sp (Cl.ea K zs) = Cl.eaS K (Cl.sp zs)
  | [] => rfl
  | [_] => rfl
  | s :: t :: r => by
    have h := Cl.sp_ea K (t :: r)
    show (s.1, s.2 + K, t.1) :: Cl.sp (Cl.ea K (t :: r)) = (s.1, s.2 + K, t.1) :: Cl.eaS K (Cl.sp (t :: r))
    rw [h]
theorem Cl.offW_ea (K : Int) : ∀ (l : List Cl.Sp) (p t : Int), Cl.offW (p + K) (Cl.eaS K l) t = Cl.offW p l t + K
  | [], _, _ => rfl
  | x :: r, p, t => by
    show Cl.offW (if x.1 ≤ t then x.2.1 + K else p + K) (Cl.eaS K r) t = Cl.offW (if x.1 ≤ t then x.2.1 else p) r t + K
    split
    · exact Cl.offW_ea K r _ t
    · exact Cl.offW_ea K r _ t
theorem Cl.loc_ea {zs : List Cl.Sh} (g : Cl.Good zs) (K : Int) {t : Int} (h0 : 0 ≤ t) : Cl.loc (Cl.ea K zs) t = Cl.loc zs t + K := by
  unfold Cl.loc
  rw [Cl.sp_ea]
  obtain ⟨e0, hd⟩ := Cl.sp_drop (zs := zs) (k := 0) (by have := g.one; omega)
  rw [List.drop_zero] at hd
  have hc := g.ch
  rw [hd] at hc ⊢
  rw [Cl.offW_in _ _ 0 0 t hc h0]
  have h1 := hc.1
  generalize (Cl.sp zs).drop (0 + 1) = R
  generalize zs.getD 0 (0, 0) = z0 at h1 ⊢
  show t + Cl.offW (if z0.1 ≤ t then z0.2 + K else 0) (Cl.eaS K R) t = t + Cl.offW z0.2 R t + K
  dsimp only at h1
  rw [if_pos (by omega), Cl.offW_ea]
  omega
theorem Cl.east_loc {zs : List Cl.Sh} {K : Int} (hv : Cl.vz zs = true) (he : Cl.vz (Cl.ea K zs) = true) {t : Int} (h0 : 0 ≤ t) (h1 : t < 144001440) :
    ∃ a b c d, Cl.locF zs t = (a, b, 0) ∧ Cl.locF (Cl.ea K zs) t = (c, d, 0) ∧ (0 ≤ b ∧ b < 1440 ∧ 0 ≤ d ∧ d < 1440 ∧ -1 ≤ a ∧ a ≤ 100001 ∧ -1 ≤ c ∧ c ≤ 100001) ∧ 1440 * c + d = 1440 * a + b + K := by
  obtain ⟨l1, l2, l3, l4, l5, l6⟩ := Cl.locF_ok hv h0 (show t < Cl.M1 from h1)
  obtain ⟨m1, m2, m3, m4, m5, m6⟩ := Cl.locF_ok he h0 (show t < Cl.M1 from h1)
  have := Cl.loc_ea (Cl.good_of zs hv) K h0
  refine ⟨(Cl.locF zs t).1, (Cl.locF zs t).2.1, (Cl.locF (Cl.ea K zs) t).1, (Cl.locF (Cl.ea K zs) t).2.1, Prod.ext rfl (Prod.ext rfl l1), Prod.ext rfl (Prod.ext rfl m1), ⟨l2, l3, m2, m3, l4, l5, m4, m5⟩, ?_⟩
  omega
theorem Cl.east_begin {zs : List Cl.Sh} {K : Int} (hv : Cl.vz zs = true) (he : Cl.vz (Cl.ea K zs) = true) (hK : 0 ≤ K) (d : Int) :
    (Cl.instF zs d 0 = (0, 10) ∧ ∃ x y, Cl.instF (Cl.ea K zs) d 0 = (x, y)) ∨ ∃ u v, Cl.instF zs d 0 = (u, 0) ∧ Cl.instF (Cl.ea K zs) d 0 = (v, 0) ∧ v ≤ u := by
  have g := Cl.good_of zs hv
  have ge := Cl.good_of _ he
  have hi := Cl.instF_ok (d := d) (m := 0) hv (by omega) (by omega)
  have hj := Cl.instF_ok (d := d) (m := 0) he (by omega) (by omega)
  cases h : Cl.inst (Cl.sp zs) (Cl.want d 0) with
  | none =>
    rw [h] at hi
    exact .inl ⟨hi, _, _, rfl⟩
  | some u =>
    rw [h] at hi
    obtain ⟨a1, a2, a3, a4⟩ := Cl.inst_some g h
    have hl := Cl.loc_ea g K a1
    cases k : Cl.inst (Cl.sp (Cl.ea K zs)) (Cl.want d 0) with
    | none =>
      have := Cl.inst_none ge k u a1 a2
      omega
    | some v =>
      rw [k] at hj
      refine .inr ⟨u, v, hi, hj, ?_⟩
      obtain ⟨b1, b2, b3, b4⟩ := Cl.inst_some ge k
      by_cases huv : v ≤ u
      · exact huv
      · have := b4 u a1 (by omega)
        omega

/-! ### a list of shifts of the call's own -/
def shC (l : List Cl.Sh) : List Value := l.flatMap fun p => [.int .i64 p.1, .int .i64 p.2]
theorem shC_append (l m : List Cl.Sh) : shC (l ++ m) = shC l ++ shC m := by unfold shC; exact List.flatMap_append
theorem shC_get : ∀ (l : List Cl.Sh) (k : Nat) (h : k < l.length), (shC l)[k * 2]? = some (.int .i64 (l[k]).1) ∧ (shC l)[k * 2 + 1]? = some (.int .i64 (l[k]).2)
  | [], k, h => absurd h (by simp)
  | p :: r, 0, h => ⟨rfl, rfl⟩
  | p :: r, k + 1, h => by
    have := shC_get r k (by simpa using h)
    have e : shC (p :: r) = .int .i64 p.1 :: .int .i64 p.2 :: shC r := rfl
    rw [e, show (k + 1) * 2 = k * 2 + 2 by omega, show k * 2 + 2 + 1 = k * 2 + 1 + 2 by omega]
    simpa using this
theorem Cl.infoSh : (Tryd.prog.info? 40).map (fun i => (i.zero, i.size, i.bytes)) = some (some (.agg #[.int .i64 0, .int .i64 0]), 2, 16) := by kernel_rfl
def CoE (w : World) (B : Nat) (v : Value) (l : List Cl.Sh) : Prop := w.ownsRow B 40 2 v l.length (shC l)
theorem CoE.nil (w : World) (B : Nat) : CoE w B (.slice none 0 0) [] := World.ownsRow_nil w B _ _
theorem CoE.zn {w : World} {B g m cap : Nat} {l : List Cl.Sh} (h : CoE w B (.slice (some ⟨g, 0, none⟩) m cap) l) : Zn w w.heap.size (some ⟨g, 0, none⟩) l := by
  have h0 : w.ownsRow B 40 2 (.slice (some ⟨g, 0, none⟩) m cap) l.length (shC l) := h
  have hg : g < w.heap.size := by
    rcases h.2 with ⟨e, _⟩ | ⟨g', cap', cur, e, h2, h3, _⟩
    · cases e
    · cases e
      exact (Array.getElem?_eq_some_iff.1 h3).1
  have ea : ∀ n, (⟨g, 0, none⟩ : Addr).add n = ⟨g, n, none⟩ := fun n => by unfold Addr.add; split <;> simp_all
  intro k hk
  refine ⟨_, rfl, hg, ?_, ?_⟩
  · have := h0.cells (g := g) rfl (k * 2) _ (shC_get l k hk).1
    rw [ea] at this ⊢
    rw [List.getD_eq_getElem?_getD, List.getElem?_eq_getElem hk, Option.getD_some]
    exact this
  · have := h0.cells (g := g) rfl (k * 2 + 1) _ (shC_get l k hk).2
    have e2 : (⟨g, k * 2, none⟩ : Addr).add 1 = ⟨g, k * 2 + 1, none⟩ := by unfold Addr.add; split <;> simp_all
    rw [ea] at this
    rw [ea, e2, List.getD_eq_getElem?_getD, List.getElem?_eq_getElem hk, Option.getD_some]
    exact this
theorem CoE.mono {W : World} {B B' : Nat} {v : Value} {l : List Cl.Sh} (h : CoE W B v l) (hB : B' ≤ B) : CoE W B' v l := by
  refine ⟨h.1, ?_⟩
  rcases h.2 with h0 | ⟨g, cap, cur, h1, h2, h3⟩
  · exact .inl h0
  · exact .inr ⟨g, cap, cur, h1, Nat.le_trans hB h2, h3⟩
theorem CoE.other {W : World} {B k : Nat} {v : Value} {l : List Cl.Sh} (h : CoE W B v l) (hk : k < B) : some k ≠ v.ownBlock := by
  rcases h.2 with ⟨rfl, _⟩ | ⟨g, cap, cur, rfl, h2, _⟩
  · simp [Value.ownBlock]
  · simp [Value.ownBlock]
    omega
theorem Cl.two_new (w : World) (u1 u2 : Value) (t : TypeId) : ∀ j u, [u1, u2][j]? = some u → (w.alloc (.cells #[u1, u2] t)).cell? ((⟨w.heap.size, 0, none⟩ : Addr).add j) = some u :=
  World.news_of_block (w := w.alloc (.cells #[u1, u2] t)) (cs := #[u1, u2]) (World.alloc_heap_new w _)

/-- What a round of the law's loop does to the memory: a shift is laid, appended, and the longer list stored into the zone at E. -/
theorem Cl.east_round (wr : World) (E B n0 : Nat) (u : Value) (l : List Cl.Sh) (f o : Int) (hE : Boxed wr E 24 u) (hl : CoE wr B u l) (hEB : E < B) (hn : n0 ≤ E) (hB : B ≤ wr.heap.size) (hm : l.length ≤ 1000) :
    ∃ g cap w3, (Builtin.append_ #[22, 22] 22 #[u, .slice (some ⟨wr.heap.size, 0, none⟩) 1 1]).run Tryd.prog (wr.drew.alloc (.cells #[.int .i64 f, .int .i64 o] 40)) = .ok (.slice (some ⟨g, 0, none⟩) (l.length + 1) cap) w3 ∧
      Boxed (wr.drew.alloc (.cells #[.int .i64 f, .int .i64 o] 40)) E 24 u ∧ Boxed w3 E 24 u ∧
      (let w4 := w3.setCell ⟨E, 0, none⟩ (.slice (some ⟨g, 0, none⟩) (l.length + 1) cap)
       Boxed w4 E 24 (.slice (some ⟨g, 0, none⟩) (l.length + 1) cap) ∧ CoE w4 B (.slice (some ⟨g, 0, none⟩) (l.length + 1) cap) (l ++ [(f, o)]) ∧ Below n0 wr w4 ∧ B ≤ w4.heap.size) ∧
      (∀ a x, a.block < E → wr.cell? a = some x → (wr.drew.alloc (.cells #[.int .i64 f, .int .i64 o] 40)).cell? a = some x ∧ w3.cell? a = some x ∧ (w3.setCell ⟨E, 0, none⟩ (.slice (some ⟨g, 0, none⟩) (l.length + 1) cap)).cell? a = some x) := by
  obtain ⟨i0, hi, hz0, hz1, hz2⟩ := info_parts Cl.infoSh
  have hED : Boxed wr.drew E 24 u := hE
  have hrow : wr.drew.ownsRow B 40 2 u l.length (shC l) := hl
  have hrowA : (wr.drew.alloc (.cells #[.int .i64 f, .int .i64 o] 40)).ownsRow B 40 2 u l.length (shC l) := hrow.alloc _
  obtain ⟨v3, w3, hrun, hown, hgrow, _, _⟩ := run_append_own_at (P := Tryd.prog) (w := wr.drew.alloc (.cells #[.int .i64 f, .int .i64 o] 40)) B 22 22 40 i0 (.agg #[.int .i64 0, .int .i64 0]) 2 16 Tryd.underlying22 hi hz0 hz1 hz2 rfl (by decide) u l.length (shC l)
    hrowA ⟨wr.heap.size, 0, none⟩ 1 1 [.int .i64 f, .int .i64 o] rfl (Cl.two_new wr.drew _ _ _) (by intro x hx; simp at hx; rcases hx with rfl | rfl <;> rfl) (by unfold maxLen; omega) (by omega) (by simp; omega)
  obtain ⟨g, cap, rfl⟩ := ownsRow_succ hown
  have hownE : CoE w3 B (.slice (some ⟨g, 0, none⟩) (l.length + 1) cap) (l ++ [(f, o)]) := by
    unfold CoE
    rw [List.length_append, shC_append]
    exact hown
  have hne : some E ≠ u.ownBlock := hl.other hEB
  have hne3 : some E ≠ (Value.slice (some ⟨g, 0, none⟩) (l.length + 1) cap).ownBlock := hownE.other hEB
  have hE3 : Boxed w3 E 24 u := (hED.alloc _).kept hgrow hne
  have hsz := hgrow.size
  simp only [World.size_alloc] at hsz
  have hszd : wr.drew.heap.size = wr.heap.size := rfl
  have hset := grownBy_setCell' w3 E (.slice (some ⟨g, 0, none⟩) (l.length + 1) cap)
  have hEl : E < wr.heap.size := hE.lt
  have hb4 : Below n0 wr (w3.setCell ⟨E, 0, none⟩ (.slice (some ⟨g, 0, none⟩) (l.length + 1) cap)) := by
    refine Below.trans (b := w3) (((Below.refl n0 wr).drew.alloc (by omega) _).grown hgrow (by simp; omega) fun j hj => ?_) ((Below.refl _ _).grown hset (by omega) fun j hj => by cases hj; exact hn)
    have := hl.other (k := j)
    by_cases hjB : j < B
    · exact absurd hj.symm (this hjB)
    · omega
  refine ⟨g, cap, w3, hrun, hED.alloc _, hE3, ⟨hE3.set _, CoE.mono (B := B) ?_ (Nat.le_refl _), hb4, ?_⟩, fun a x ha hx => ?_⟩
  · exact World.ownsRow.kept hownE hset (.inr hne3.symm)
  · have := hset.size
    omega
  · have h0 : wr.drew.cell? a = some x := hx
    have h1 := (World.cell?_of_block (Below.heap_alloc wr.drew (.cells #[.int .i64 f, .int .i64 o] 40) a.block (by omega))).trans h0
    have hlt : a.block < (wr.drew.alloc (.cells #[.int .i64 f, .int .i64 o] 40)).heap.size := by simp only [World.size_alloc]; omega
    have h3 := (hgrow.cell_far a hlt (hl.other (by omega))).trans h1
    exact ⟨h1, h3, (hset.cell_far a (by omega) (by intro e; cases e; omega)).trans h3⟩
end Go.Proofs.YtkkgefefbamcpaaDoor
