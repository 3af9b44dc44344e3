/- A list of shifts that came in; the program's spans: a function that is ranged over (layer 6). -/
import Derived.Test.YtkkgefefbamcpaaDoorClMath
import Derived.Test.YtkkgefefbamcpaaDoorChecked
import Derived.RangeFuncNested
import Derived.RangeFuncBound
import Derived.RangeFuncCalls
import Derived.RangeFuncLeaves
import Derived.RangeFuncBox
import Derived.Shelf.Abstract
import Derived.Shelf.RegionOpen
import Derived.WalkKit
import Derived.OwnWalkIn
import Derived.TacticsInMore
import Derived.LoopNIn
import Derived.LoopIn
import Derived.Below
import Derived.Lib.Hide
set_option linter.unusedSimpArgs false
set_option linter.unusedVariables false
namespace Go.Proofs.YtkkgefefbamcpaaDoor
open Go.RowKit Go.Shelf
set_option maxRecDepth 100000
attribute [local go_sem] Oper.semAt_some

theorem add_blockC (a : Addr) (k : Nat) : (a.add k).block = a.block := by
  unfold Addr.add
  split <;> rfl

/-- The slice at A, below block B, holds the shifts zs. -/
def Zn (w : World) (B : Nat) (A : Option Addr) (zs : List Cl.Sh) : Prop :=
  ∀ k, k < zs.length → ∃ ad, A = some ad ∧ ad.block < B ∧ w.cell? (ad.add (k * 2)) = some (.int .i64 (zs.getD k (0, 0)).1) ∧ w.cell? ((ad.add (k * 2)).add 1) = some (.int .i64 (zs.getD k (0, 0)).2)

theorem Zn.below {w w' : World} {B B' : Nat} {A : Option Addr} {zs : List Cl.Sh} (h : Zn w B A zs) (hb : Below B' w w') (hB : B ≤ B') : Zn w' B A zs := fun k hk => by
  obtain ⟨ad, rfl, hlt, hc, hd⟩ := h k hk
  exact ⟨ad, rfl, hlt, (hb.cell (p := ad.add (k * 2)) (by rw [add_blockC]; omega)).trans hc, (hb.cell (p := (ad.add (k * 2)).add 1) (by rw [add_blockC, add_blockC]; omega)).trans hd⟩
theorem Zn.mono {w : World} {B B' : Nat} {A : Option Addr} {zs : List Cl.Sh} (h : Zn w B A zs) (hB : B ≤ B') : Zn w B' A zs := fun k hk => by
  obtain ⟨ad, rfl, hlt, hc⟩ := h k hk
  exact ⟨ad, rfl, by omega, hc⟩
theorem Zn.bt {w w' : World} {A : Option Addr} {zs : List Cl.Sh} (h : Zn w w.heap.size A zs) (hb : Below w.heap.size w w') : Zn w' w'.heap.size A zs := (h.below hb (Nat.le_refl _)).mono hb.size

theorem Cl.cell_lt {w : World} {a : Addr} {v : Value} (h : w.cell? a = some v) : a.block < w.heap.size := by
  refine Nat.lt_of_not_le fun hge => ?_
  simp [World.cell?, Array.getElem?_eq_none hge] at h
theorem Cl.cell_bt {w w' : World} {a : Addr} {v : Value} (h : w.cell? a = some v) (hb : Below w.heap.size w w') : w'.cell? a = some v := (hb.cell (Cl.cell_lt h)).trans h
theorem Cl.al (w : World) (o : Obj) : Below w.heap.size w (w.alloc o) := (Below.refl _ _).alloc (Nat.le_refl _) o
theorem Cl.Nb {w v u : World} (h : Below w.heap.size w v) (g : Below v.heap.size v u) : Below w.heap.size w u := h.trans (g.mono h.size)

/-- What a round is handed: a span. -/
abbrev SpP (p : Cl.Sp → Prop) := { x : Cl.Sp // p x }
abbrev encP {p : Cl.Sp → Prop} (x : SpP p) : Array Value := #[.agg #[.int .i64 x.1.1, .int .i64 x.1.2.1, .int .i64 x.1.2.2]]

theorem spans_made (A : Option Addr) (n c : Nat) (w : World) :
    Calls Tryd.prog 30 #[.agg #[.slice A n c]] w fun e w' => e = .returned (.func (.func 37) #[] #[.pointer (some ⟨w.heap.size, 0, none⟩)]) ∧ w' = w.alloc (.cells #[.slice A n c] 24) := by
  go_enter Tryd.func30, Tryd.ntmps30
  go_wp2
  go_ret
  exact ⟨rfl, rfl⟩

/-- What a round keeps for the spans: what lay below n₀, and the block of the zone. -/
def KpS (n₀ Bn : Nat) (W W' : World) : Prop := Below n₀ W W' ∧ W'.heap[Bn]? = W.heap[Bn]?
theorem KpS.refl (n₀ Bn : Nat) (W : World) : KpS n₀ Bn W W := ⟨Below.refl _ _, rfl⟩
theorem KpS.trans {n₀ Bn : Nat} {A B C : World} (h : KpS n₀ Bn A B) (k : KpS n₀ Bn B C) : KpS n₀ Bn A C := ⟨h.1.trans k.1, k.2.trans h.2⟩
theorem KpS.alloc {n₀ Bn : Nat} {W W' : World} (h : KpS n₀ Bn W W') (h1 : n₀ ≤ W'.heap.size) (h2 : Bn < W'.heap.size) (o : Obj) : KpS n₀ Bn W (W'.alloc o) := ⟨h.1.alloc h1 o, (Below.heap_alloc _ _ _ h2).trans h.2⟩
theorem KpS.cell {n₀ Bn : Nat} {W W' : World} {i : Nat} {v : Value} (h : KpS n₀ Bn W W') (hc : W.cell? ⟨Bn, i, none⟩ = some v) : W'.cell? ⟨Bn, i, none⟩ = some v := by
  unfold World.cell? at hc ⊢
  dsimp only at hc ⊢
  rw [h.2]
  exact hc
theorem kpS_b {n₀ Bn : Nat} {w : World} (hn : n₀ ≤ w.heap.size) (hB : Bn < w.heap.size) (W : World) (l : Nat) (o o' : Obj) (hl : w.heap.size ≤ l) (h : W.heap[l]? = some o) (h1 : o.isCells = false) (h2 : o.isWalk = false) : KpS n₀ Bn W (W.putObj l o') :=
  ⟨belowK_b hn W l o o' hl h h1 h2, (grownBy_putObj' W l o').block Bn (by have := (Array.getElem?_eq_some_iff.1 h).1; omega) (by intro e; cases e; omega)⟩

theorem below_grownC {a b : World} (h : Below a.heap.size a b) : a.grownBy b none := ⟨h.os, h.tape, h.output, h.size, fun i hi _ => h.block i hi⟩

set_option maxHeartbeats 2000000 in
theorem spans1_stops (p : Cl.Sp → Prop) (n : Nat) (hn : 1 ≤ n) (Bn n₀ : Nat) (A : Option Addr) (c : Nat) (zs : List Cl.Sh) (hm : zs.length ≤ 1000000) (hp : ∀ x ∈ Cl.sp zs, p x) (w : World) (hBn : Bn < w.heap.size) (hn0 : n₀ ≤ w.heap.size)
    (hc : w.cell? ⟨Bn, 0, none⟩ = some (.slice A zs.length c)) (hz : Zn w n₀ A zs) :
    SeqStopsK Fence.wide n Tryd.prog 37 #[.pointer (some ⟨Bn, 0, none⟩)] encP (KpS n₀ Bn) (fun xs : List (SpP p) => xs.map Subtype.val = Cl.sp zs) (fun xs : List (SpP p) => xs.map Subtype.val <+: Cl.sp zs) zs.length w := fun l J Jx W hW hJ hJx hY h0 => by
  have hcW : W.cell? ⟨Bn, 0, none⟩ = some (.slice A zs.length c) := (hW.cell (p := ⟨Bn, 0, none⟩) hBn).trans hc
  have hzW := hz.below hW hn0
  have hlen := Cl.sp_length zs
  have HG := Lib.hid (Cl.sp_get zs)
  have HP := Lib.hid hp
  have HZ := Lib.hid hzW
  have HC := Lib.hid hcW
  clear hp hz hzW hc
  refine callsIn_of_wp Tryd.func37 rfl trivial ?_ rfl
  simp only [Tryd.ntmps37, List.size_toArray, List.length_cons, List.length_nil, Nat.reduceAdd, Nat.reduceSub, Array.replicate_succ, Array.replicate_zero, List.push_toArray, List.append_toArray, List.nil_append, List.cons_append]
  have hc0 := HC.out
  gi_wp2
  clear hc0
  gi_loopw [3, 4, 5, 9] (fun s3 s4 s5 i wr => ∃ (k : Nat) (xs : List (SpP p)), k ≤ zs.length ∧ i = .int .i64 (k : Int) ∧ Hid (xs.map Subtype.val = (Cl.sp zs).take k) ∧ xs.length = k ∧ J xs wr ∧ KpS n₀ Bn W wr) (fun _ _ _ i _ => zs.length - (intOf i).toNat)
  case atStart => exact ⟨0, [], by omega, rfl, Lib.hid rfl, rfl, h0, KpS.refl _ _ _⟩
  case round =>
    obtain ⟨k, xs, hk, rfl, HX, hxl, hJk, hnx⟩ := hrel
    have hcr := hnx.cell HC.out
    have hBW : Bn < wr.heap.size := by have := hnx.1.size; have := hW.size; omega
    have hnW : n₀ ≤ wr.heap.size := by have := hnx.1.size; have := hW.size; omega
    by_cases hlt : k < zs.length
    · obtain ⟨ad, rfl, had, hf, ho⟩ := HZ.out k hlt
      have hf' := (hnx.1.cell (p := ad.add (k * 2)) (by rw [add_blockC]; exact had)).trans hf
      have ho' := (hnx.1.cell (p := (ad.add (k * 2)).add 1) (by rw [add_blockC, add_blockC]; exact had)).trans ho
      have ho' : wr.cell? { block := (ad.add (k * 2)).block, off := (ad.add (k * 2)).off + 1 } = some (.int .i64 (zs.getD k (0, 0)).2) := ho'
      have hg := HG.out k hlt
      have hgd : zs.getD k (0, 0) = zs[k] := by rw [List.getD_eq_getElem?_getD, List.getElem?_eq_getElem hlt]; rfl
      rw [hgd] at hf' ho'
      obtain ⟨f, hfe⟩ : ∃ f, f = zs[k].1 := ⟨_, rfl⟩
      obtain ⟨o, hoe⟩ : ∃ o, o = zs[k].2 := ⟨_, rfl⟩
      rw [← hfe, ← hoe] at hg
      rw [← hfe] at hf'
      rw [← hoe] at ho'
      clear hfe hoe hf ho hgd
      have hJ1 : J xs (wr.alloc (.cells #[.int .i64 f, .int .i64 o] 40)) := hJ xs wr _ none hJk (World.grownBy_alloc _ _ none) (fun r e => by cases e)
      by_cases hl2 : k + 1 < zs.length
      · obtain ⟨ad', ha', _, hf2, _⟩ := HZ.out (k + 1) hl2
        cases ha'
        have hgd : zs.getD (k + 1) (0, 0) = zs[k + 1] := by rw [List.getD_eq_getElem?_getD, List.getElem?_eq_getElem hl2]; rfl
        have hf2' := (hnx.1.cell (p := ad.add ((k + 1) * 2)) (by rw [add_blockC]; exact had)).trans hf2
        rw [hgd] at hf2'
        rw [dif_pos hl2] at hg
        obtain ⟨en, hen⟩ : ∃ en, en = zs[k + 1].1 := ⟨_, rfl⟩
        rw [← hen] at hg hf2'
        clear hen hgd hf2
        obtain ⟨x, hxv⟩ : ∃ x : SpP p, x.1 = (f, o, en) := ⟨⟨_, HP.out _ (List.mem_of_getElem? hg)⟩, rfl⟩
        obtain ⟨fn, tmps, assign, body, hy, hR⟩ := hY xs x _ hJ1 (by omega)
        dsimp only [encP] at hy
        rw [hxv] at hy
        have HGK := Lib.hid hg
        have HXV := Lib.hid hxv
        clear hg hJ1 hxv
        have hcr1 := Cl.cell_bt hcr (Cl.al wr (.cells #[.int .i64 f, .int .i64 o] 40))
        have hf1 := Cl.cell_bt hf2' (Cl.al wr (.cells #[.int .i64 f, .int .i64 o] 40))
        gi_wp2
        refine hR.mono ?_
        rintro e W3 (⟨rfl, hJ3, hk3⟩ | ⟨rfl, hJx3⟩)
        · gi_wp2
          go_roundw
          case rel => exact ⟨k + 1, xs ++ [x], by omega, by go_num, Lib.hid (by rw [List.map_append, HX.out, List.map_singleton, HXV.out, List.take_add_one, HGK.out]; rfl), by simp [hxl], hJ3, (hnx.alloc hnW hBW _).trans hk3⟩
          case measure => simp [intOf]; omega
        · gi_wp2
          refine bodyPost_ret (results_none rfl _ _ _) rfl ?_
          exact ⟨⟨_, rfl⟩, .inr ⟨_, ⟨(Cl.sp zs).drop (k + 1), by rw [List.map_append, HX.out, List.map_singleton, HXV.out, show (Cl.sp zs).take k ++ [(f, o, en)] = (Cl.sp zs).take (k + 1) by rw [List.take_add_one, HGK.out]; rfl, List.take_append_drop]⟩, hJx3⟩⟩
      · rw [dif_neg hl2] at hg
        have hx0 := HP.out _ (List.mem_of_getElem? hg)
        obtain ⟨x, hxv⟩ : ∃ x : SpP p, x.1 = (f, o, Cl.M1) := ⟨⟨_, HP.out _ (List.mem_of_getElem? hg)⟩, rfl⟩
        obtain ⟨fn, tmps, assign, body, hy, hR⟩ := hY xs x _ hJ1 (by omega)
        dsimp only [encP] at hy
        rw [hxv] at hy
        unfold Cl.M1 at hy
        have HGK := Lib.hid hg
        have HXV := Lib.hid hxv
        clear hg hJ1 hxv hx0
        have hcr1 := Cl.cell_bt hcr (Cl.al wr (.cells #[.int .i64 f, .int .i64 o] 40))
        gi_wp2
        refine hR.mono ?_
        rintro e W3 (⟨rfl, hJ3, hk3⟩ | ⟨rfl, hJx3⟩)
        · gi_wp2
          go_roundw
          case rel => exact ⟨k + 1, xs ++ [x], by omega, by go_num, Lib.hid (by rw [List.map_append, HX.out, List.map_singleton, HXV.out, List.take_add_one, HGK.out]; rfl), by simp [hxl], hJ3, (hnx.alloc hnW hBW _).trans hk3⟩
          case measure => simp [intOf]; omega
        · gi_wp2
          refine bodyPost_ret (results_none rfl _ _ _) rfl ?_
          exact ⟨⟨_, rfl⟩, .inr ⟨_, ⟨(Cl.sp zs).drop (k + 1), by rw [List.map_append, HX.out, List.map_singleton, HXV.out, show (Cl.sp zs).take k ++ [(f, o, Cl.M1)] = (Cl.sp zs).take (k + 1) by rw [List.take_add_one, HGK.out]; rfl, List.take_append_drop]⟩, hJx3⟩⟩
    · obtain rfl : k = zs.length := by omega
      have HE : Hid (xs.map Subtype.val = Cl.sp zs) := Lib.hid (by rw [HX.out, List.take_of_length_le (by omega)])
      gi_wp2
      go_end0
      exact ⟨⟨_, rfl⟩, .inl ⟨_, HE.out, hJk⟩⟩
end Go.Proofs.YtkkgefefbamcpaaDoor
