/- The library's Grow of nil and Concat of two slices, at numbers in limbs. -/
import Derived.Test.YtmnnaaifebajnaaGreatDoorNaE
import Derived.Lib.AppendZeros
import Derived.Laws.AppendOwn
set_option linter.unusedSimpArgs false
set_option linter.unusedVariables false
namespace Go.Proofs.YtmnnaaifebajnaaGreatDoor
open Go.RowKit
set_option maxRecDepth 100000

set_option maxHeartbeats 1000000 in
theorem grow_nil (n : Nat) (w : World) (h0 : 0 < n) (hn : n ≤ 1000000) :
    Calls Tryz.prog 119 #[.slice none 0 0, .int .i64 (n : Int)] w fun e w' => ∃ g cap, e = .returned (.slice (some ⟨g, 0, none⟩) 0 cap) ∧ OwnZ w' w.heap.size g cap [] ∧ Below w.heap.size w w' := by
  obtain ⟨i0, hi, hz0, hz1, hz2⟩ := info_parts infoI
  have hrz : ∀ ty, (Builtin.append_ #[72, 3] ty #[.slice none 0 0, .int .i64 (n : Int)]).run Tryz.prog w = _ := fun ty => Lib.run_append_nil_zeros w 72 3 ty 3 i0 (.int .i64 0) .i64 .i64 rfl rfl hi hz0 n h0 (by omega) (by omega) (by rw [hz2]; omega)
  have hge := grownCap_ge w n 0 3
  have hle := grownCap_le_maxLen w n 0 3 (by unfold maxLen; omega)
  generalize grownCap w n 0 3 = cap at *
  have FIN : Hid (OwnZ (w.drew.alloc (.cells (Builtin.zeroCells (Value.int .i64 0).cells n ++ Builtin.zeroCells (Value.int .i64 0).cells (cap - n)) 3)) w.heap.size w.heap.size cap [] ∧ Below w.heap.size w (w.drew.alloc (.cells (Builtin.zeroCells (Value.int .i64 0).cells n ++ Builtin.zeroCells (Value.int .i64 0).cells (cap - n)) 3))) := by
    refine Lib.hid ⟨⟨rfl, .inr ⟨w.heap.size, cap, _, rfl, Nat.le_refl _, heap_alloc_new _ _, by simp, hle, ?_, by simp⟩⟩, ?_⟩
    · simp [Builtin.zeroCells, Value.cells]; omega
    · exact ((Below.refl _ _).drew).alloc (Nat.le_refl _) _
  have h1 : wrap64 ((0 : Int) - 0) = 0 := by unfold wrap64; omega
  have h4 : (n : Int) > 0 := by omega
  unfold maxLen at hle
  generalize w.drew.alloc (.cells (Builtin.zeroCells (Value.int .i64 0).cells n ++ Builtin.zeroCells (Value.int .i64 0).cells (cap - n)) 3) = W at *
  go_enter Tryz.func119, Tryz.ntmps119
  go_wp2_with (first
    | (at_builtin; refine Lib.wpList_append_run _ rfl (.tmp 20) (.tmp 21) 72 3 rfl _ _ rfl rfl _ _ (hrz _) ?_)
    | fail)
  go_ret
  exact ⟨_, _, rfl, FIN.out.1, FIN.out.2⟩

theorem run_nothing (ty : TypeId) (g n cap : Nat) (hnc : n ≤ cap) (A : Option Addr) (c : Nat) (w : World) :
    (Builtin.append_ #[72, 72] ty #[.slice (some ⟨g, 0, none⟩) n cap, .slice A 0 c]).run Tryz.prog w = .ok (.slice (some ⟨g, 0, none⟩) n cap) w := by
  obtain ⟨i0, hi, hz0, hz1, hz2⟩ := info_parts infoI
  cases A <;> simp [Builtin.append_, run_underlying Tryz.underlying72, Go.sizeOf, typeInfo, hi, Builtin.lenOf, Builtin.firstCells, hnc, storeCells, loadCells, loadCellsFrom]

set_option maxHeartbeats 1000000 in
theorem concat_any (G : Nat) (a1 : Addr) (A : Option Addr) (x : Nat) (r : List Nat) (c : Nat) (w : World) (h0 : w.cell? ⟨G, 0, none⟩ = some (.slice (some a1) 1 1)) (h1 : w.cell? ⟨G, 1, none⟩ = some (.slice A r.length c)) (hG : G < w.heap.size) (hx : Ints w w.heap.size (some a1) [x]) (hs : Ints w w.heap.size A r) (hl : r.length ≤ 1000) :
    Calls Tryz.prog 102 #[.slice (some ⟨G, 0, none⟩) 2 2] w fun e w' => ∃ g cap, e = .returned (.slice (some ⟨g, 0, none⟩) (1 + r.length) cap) ∧ OwnZ w' w.heap.size g cap ((x :: r).map fun d : Nat => (d : Int)) ∧ Below w.heap.size w w' := by
  have GR := Lib.hid (grow_nil (1 + r.length) w (by omega) (by omega))
  have H0 := Lib.hid (fun wr (hb : Below w.heap.size w wr) => (hb.cell (p := ⟨G, 0, none⟩) hG).trans h0)
  have H1 := Lib.hid (fun wr (hb : Below w.heap.size w wr) => (hb.cell (p := ⟨G, 1, none⟩) hG).trans h1)
  have HX := Lib.hid (fun w' hb => ints_src (w' := w') hx hb)
  have e1 : ((1 : Int) + (r.length : Int)) = ((1 + r.length : Nat) : Int) := by omega
  have HE1 := Lib.hid e1
  clear e1
  go_enter Tryz.func102, Tryz.ntmps102
  go_wp2
  go_loop [3, 11] (fun s i => (s = .int .i64 0 ∧ i = .int .i64 0) ∨ (s = .int .i64 1 ∧ i = .int .i64 1) ∨ (s = .int .i64 (((1 + r.length : Nat) : Int)) ∧ i = .int .i64 2)) (fun _ i => 2 - (intOf i).toNat)
  case atStart => exact .inl ⟨rfl, rfl⟩
  case round =>
    rcases hrel with ⟨rfl, rfl⟩ | ⟨rfl, rfl⟩ | ⟨rfl, rfl⟩
    · go_wp2
      exact ⟨.inr (.inl ⟨rfl, rfl⟩), by simp [intOf]⟩
    · go_wp2
      refine ⟨.inr (.inr ⟨?_, rfl⟩), by simp [intOf]⟩
      rw [← HE1.out]
    · go_wp2_with fail
      refine GR.out.mono ?_
      rintro e w1 ⟨g0, cap0, rfl, ho, hb⟩
      have HO0 := Lib.hid ho
      clear ho GR
      go_wp2_with fail
      go_loopw [6, 27] (fun v i wr => ∃ (l : List Int) (g cap : Nat), v = .slice (some ⟨g, 0, none⟩) l.length cap ∧ Hid (OwnZ wr w.heap.size g cap l) ∧ Below w.heap.size w wr ∧ ((i = .int .i64 0 ∧ l = []) ∨ (i = .int .i64 1 ∧ l = [(x : Int)]) ∨ (i = .int .i64 2 ∧ l = (x :: r).map fun d : Nat => (d : Int)))) (fun _ i _ => 2 - (intOf i).toNat)
      case atStart => exact ⟨[], g0, cap0, rfl, HO0, hb, .inl ⟨rfl, rfl⟩⟩
      case round =>
        clear HO0 hb
        obtain ⟨l, g, cap, rfl, HO, hb, h⟩ := hrel
        rcases h with ⟨rfl, rfl⟩ | ⟨rfl, rfl⟩ | ⟨rfl, rfl⟩
        · have hc0 := H0.out wr hb
          have HB := Lib.hid hb
          clear hb
          go_wp2_with (first
            | (at_builtin
               refine list_appendZ rfl (.tmp 31) (.tmp 32) 72 rfl rfl w.heap.size _ [] rfl HO.out a1 1 1 [(x : Int)] rfl rfl (HX.out _ HB.out) (by omega) (by simp) HB.out.size ?_
               intro g2 cap2 w2 ho2 hb2
               have HO2 := Lib.hid ho2
               have HB2 := Lib.hid (HB.out.trans hb2)
               clear ho2 hb2)
            | fail)
          exact ⟨⟨_, g2, cap2, rfl, Lib.hid HO2.out, HB2.out, .inr (.inl ⟨rfl, rfl⟩)⟩, by simp [intOf]⟩
        · have hc1 := H1.out wr hb
          have HB := Lib.hid hb
          have hfc := HO.out.facts
          simp at hfc
          clear hb
          by_cases hr0 : r = []
          · have hrn : ∀ ty, (Builtin.append_ #[72, 72] ty #[.slice (some ⟨g, 0, none⟩) 1 cap, .slice A r.length c]).run Tryz.prog wr = .ok (.slice (some ⟨g, 0, none⟩) 1 cap) wr := fun ty => by
              rw [hr0]
              exact run_nothing ty g 1 cap hfc.2.2.1 A c wr
            have HR0 := Lib.hid hr0
            clear hr0
            go_wp2_with (first
              | (at_builtin; refine Lib.wpList_append_run _ rfl (.tmp 31) (.tmp 32) 72 72 rfl _ _ rfl rfl _ _ (hrn _) ?_)
              | fail)
            exact ⟨⟨[(x : Int)], g, cap, rfl, HO, HB.out, .inr (.inr ⟨rfl, by rw [HR0.out]; rfl⟩)⟩, by simp [intOf]⟩
          · obtain ⟨ad, rfl, _, _⟩ := hs 0 (List.length_pos_iff.2 hr0)
            have HR := Lib.hid (ints_src (w' := wr) hs HB.out)
            have hrl : 0 < r.length := List.length_pos_iff.2 hr0
            have hcl : (r.map fun d : Nat => (d : Int)).length = r.length := by simp
            go_wp2_with (first
              | (at_builtin
                 refine list_appendZ rfl (.tmp 31) (.tmp 32) 72 rfl rfl w.heap.size _ [(x : Int)] rfl HO.out ad r.length c (r.map fun d : Nat => (d : Int)) hcl rfl HR.out hrl (by simp; omega) HB.out.size ?_
                 intro g2 cap2 w2 ho2 hb2
                 have HO2 := Lib.hid ho2
                 have HB2 := Lib.hid (HB.out.trans hb2)
                 clear ho2 hb2)
              | fail)
            refine ⟨⟨(x :: r).map fun d : Nat => (d : Int), g2, cap2, ?_, Lib.hid HO2.out, HB2.out, .inr (.inr ⟨rfl, rfl⟩)⟩, by simp [intOf]⟩
            simp; omega
        · have HB := Lib.hid hb
          clear hb
          have hll : ((x :: r).map fun d : Nat => (d : Int)).length = 1 + r.length := by simp; omega
          rw [hll]
          go_wp2
          go_ret
          exact ⟨_, _, rfl, HO.out, HB.out⟩
end Go.Proofs.YtmnnaaifebajnaaGreatDoor
