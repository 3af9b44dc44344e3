/- The program's Parse (layer 6). -/
import Derived.Test.YtkkgefefbamcpaaDoorClP
import Derived.Laws.Rows
set_option linter.unusedSimpArgs false
set_option linter.unusedVariables false
namespace Go.Proofs.YtkkgefefbamcpaaDoor
open Go.RowKit
set_option maxRecDepth 100000

/-- The block of the three numbers of a text. -/
def At3 (w : World) (b : Nat) (x y z : Int) : Prop := w.heap[b]? = some (.cells #[.int .i64 x, .int .i64 y, .int .i64 z] 62 (0, 0))
theorem At3.bt {w w' : World} {b : Nat} {x y z : Int} (h : At3 w b x y z) (hb : Below w.heap.size w w') : At3 w' b x y z := (hb.block b (Array.getElem?_eq_some_iff.1 h).1).trans h
theorem At3.new (w : World) : At3 (w.alloc (.cells #[.int .i64 0, .int .i64 0, .int .i64 0] 62)) w.heap.size 0 0 0 := World.alloc_heap_new w _
theorem At3.cells {w : World} {b : Nat} {x y z : Int} (h : At3 w b x y z) : w.cell? ⟨b, 0, none⟩ = some (.int .i64 x) ∧ w.cell? ⟨b, 1, none⟩ = some (.int .i64 y) ∧ w.cell? ⟨b, 2, none⟩ = some (.int .i64 z) ∧ w.frozen? ⟨b, 0, none⟩ = false ∧ w.frozen? ⟨b, 1, none⟩ = false ∧ w.frozen? ⟨b, 2, none⟩ = false := by
  unfold At3 at h
  simp [World.cell?, World.frozen?, h]
theorem At3.set0 {w : World} {b : Nat} {x y z : Int} (h : At3 w b x y z) (v : Int) : At3 (w.setCell ⟨b, 0, none⟩ (.int .i64 v)) b v y z := heap_setCell_same w b 0 _ _ _ h
theorem At3.set1 {w : World} {b : Nat} {x y z : Int} (h : At3 w b x y z) (v : Int) : At3 (w.setCell ⟨b, 1, none⟩ (.int .i64 v)) b x v z := heap_setCell_same w b 1 _ _ _ h
theorem At3.set2 {w : World} {b : Nat} {x y z : Int} (h : At3 w b x y z) (v : Int) : At3 (w.setCell ⟨b, 2, none⟩ (.int .i64 v)) b x y v := heap_setCell_same w b 2 _ _ _ h

theorem Cl.index3 (d h m : ByteArray) (w : World) :
    Sem.run Tryd.prog (Instr.index 63 (.agg #[.string d, .string h, .string m]) (.int .i64 0)) w = .ok (.string d) w ∧
    Sem.run Tryd.prog (Instr.index 63 (.agg #[.string d, .string h, .string m]) (.int .i64 1)) w = .ok (.string h) w ∧
    Sem.run Tryd.prog (Instr.index 63 (.agg #[.string d, .string h, .string m]) (.int .i64 2)) w = .ok (.string m) w := by
  have hu : Tryd.prog.underlying 63 = some (.array 3 9) := Tryd.underlying63
  refine ⟨?_, ?_, ?_⟩ <;> · unfold Instr.index; simp [go_sem, hu]

set_option maxHeartbeats 2000000 in
/-- Parse, whatever the parts of the text and their numbers are. -/
theorem parse_walk (s d t1 h m : ByteArray) (k1 k2 : Bool) (x y z : Int) (own : ByteArray) (e0 : Int) (res : Int × Int) (w : World)
    (hc : (e0 ≠ 0 ∧ res = (0, 5)) ∨ (e0 = 0 ∧ (own.toList == s.toList) = false ∧ res = (0, 5)) ∨ (e0 = 0 ∧ (own.toList == s.toList) = true ∧ res = (wrap64 (wrap64 (wrap64 (x * 1440) + wrap64 (y * 60)) + z), 0)))
    (C1 : Hid (∀ v, Below w.heap.size w v → Calls Tryd.prog 35 #[.string s, .string ⟨#[47]⟩] v fun e w' => e = .returned (.tuple #[.string d, .string t1, .bool k1]) ∧ Below v.heap.size v w'))
    (C2 : Hid (∀ v, Below w.heap.size w v → Calls Tryd.prog 35 #[.string t1, .string ⟨#[58]⟩] v fun e w' => e = .returned (.tuple #[.string h, .string m, .bool k2]) ∧ Below v.heap.size v w'))
    (A1 : Hid (∀ v, Below w.heap.size w v → Calls Tryd.prog 36 #[.string d] v fun e w' => ∃ ev, e = .returned (.tuple #[.int .i64 x, ev]) ∧ Below v.heap.size v w'))
    (A2 : Hid (∀ v, Below w.heap.size w v → Calls Tryd.prog 36 #[.string h] v fun e w' => ∃ ev, e = .returned (.tuple #[.int .i64 y, ev]) ∧ Below v.heap.size v w'))
    (A3 : Hid (∀ v, Below w.heap.size w v → Calls Tryd.prog 36 #[.string m] v fun e w' => ∃ ev, e = .returned (.tuple #[.int .i64 z, ev]) ∧ Below v.heap.size v w'))
    (T : Hid (∀ v, Below w.heap.size w v → Calls Tryd.prog 18 #[.int .i64 (wrap64 (wrap64 (wrap64 (x * 1440) + wrap64 (y * 60)) + z))] v fun e w' => e = .returned (.tuple #[.string own, .int .i64 e0]) ∧ Below v.heap.size v w')) :
    Calls Tryd.prog 20 #[.string s] w fun e w' => e = .returned (.tuple #[.int .i64 res.1, .int .i64 res.2]) ∧ Below w.heap.size w w' := by
  have HC := Lib.hid hc
  clear hc
  have hb0 := Below.refl w.heap.size w
  go_enter Tryd.func20, Tryd.ntmps20
  go_wp2_with fail
  refine (C1.out _ hb0).mono ?_
  rintro e w1 ⟨rfl, g⟩
  have hb1 := Cl.Nb hb0 g
  clear g hb0
  go_wp2_with fail
  refine (C2.out _ hb1).mono ?_
  rintro e w2 ⟨rfl, g⟩
  have hb2 := Cl.Nb hb1 g
  clear g hb1
  have hb3 := Cl.Nb hb2 (Cl.al w2 (.cells #[.int .i64 0, .int .i64 0, .int .i64 0] 62))
  have HA := Lib.hid (At3.new w2)
  have hlt : w.heap.size ≤ w2.heap.size := hb2.size
  clear hb2
  go_wp2_with fail
  generalize w2.heap.size = B at *
  go_loopw [32] (fun i wr => Below w.heap.size w wr ∧ ((i = .int .i64 0 ∧ Hid (At3 wr B 0 0 0)) ∨ (i = .int .i64 1 ∧ Hid (At3 wr B x 0 0)) ∨ (i = .int .i64 2 ∧ Hid (At3 wr B x y 0)) ∨ (i = .int .i64 3 ∧ Hid (At3 wr B x y z)))) (fun i _ => 3 - (intOf i).toNat)
  case atStart => exact ⟨hb3, .inl ⟨rfl, HA⟩⟩
  case round =>
    obtain ⟨hb, ⟨rfl, HA⟩ | ⟨rfl, HA⟩ | ⟨rfl, HA⟩ | ⟨rfl, HA⟩⟩ := hrel
    · obtain ⟨i0, i1, i2⟩ := Cl.index3 d h m wr
      go_wp2_with fail
      refine (A1.out _ hb).mono ?_
      rintro e w3 ⟨ev, rfl, g⟩
      have h3 := HA.out.bt g
      have hb' := Cl.Nb hb g
      clear g hb
      obtain ⟨c0, c1, c2, f0, f1, f2⟩ := h3.cells
      go_wp2_with fail
      go_roundw
      case rel => exact ⟨hb'.setCell (p := ⟨B, 0, none⟩) hlt _, .inr (.inl ⟨rfl, Lib.hid (h3.set0 _)⟩)⟩
      case measure => simp [intOf]
    · obtain ⟨i0, i1, i2⟩ := Cl.index3 d h m wr
      go_wp2_with fail
      refine (A2.out _ hb).mono ?_
      rintro e w3 ⟨ev, rfl, g⟩
      have h3 := HA.out.bt g
      have hb' := Cl.Nb hb g
      clear g hb
      obtain ⟨c0, c1, c2, f0, f1, f2⟩ := h3.cells
      go_wp2_with fail
      go_roundw
      case rel => exact ⟨hb'.setCell (p := ⟨B, 1, none⟩) hlt _, .inr (.inr (.inl ⟨rfl, Lib.hid (h3.set1 _)⟩))⟩
      case measure => simp [intOf]
    · obtain ⟨i0, i1, i2⟩ := Cl.index3 d h m wr
      go_wp2_with fail
      refine (A3.out _ hb).mono ?_
      rintro e w3 ⟨ev, rfl, g⟩
      have h3 := HA.out.bt g
      have hb' := Cl.Nb hb g
      clear g hb
      obtain ⟨c0, c1, c2, f0, f1, f2⟩ := h3.cells
      go_wp2_with fail
      go_roundw
      case rel => exact ⟨hb'.setCell (p := ⟨B, 2, none⟩) hlt _, .inr (.inr (.inr ⟨rfl, Lib.hid (h3.set2 _)⟩))⟩
      case measure => simp [intOf]
    · obtain ⟨c0, c1, c2, f0, f1, f2⟩ := HA.out.cells
      go_wp2_with fail
      refine (T.out _ hb).mono ?_
      rintro e w3 ⟨rfl, g⟩
      have hb' := Cl.Nb hb g
      clear g hb c0 c1 c2 f0 f1 f2 HA C1 C2 A1 A2 A3 T
      generalize wrap64 (wrap64 (wrap64 (x * 1440) + wrap64 (y * 60)) + z) = n at *
      rcases HC.out with ⟨h0, rfl⟩ | ⟨rfl, h0, rfl⟩ | ⟨rfl, h0, rfl⟩
      · have h1 : (e0 != 0) = true := by simp [h0]
        clear h0
        go_wp2_with fail
        go_ret2
        exact ⟨rfl, hb'⟩
      · go_wp2_with fail
        go_ret2
        exact ⟨rfl, hb'⟩
      · go_wp2_with fail
        go_ret2
        exact ⟨rfl, hb'⟩

theorem Cl.bytes_ne {x y : ByteArray} (h : x ≠ y) : (x.toList == y.toList) = false := by
  rw [beq_eq_false_iff_ne]
  intro e
  rw [ByteArray.toList_eq, ByteArray.toList_eq] at e
  exact h (ByteArray.ext (Array.toList_inj.1 e))

theorem Cl.w64 {n : Int} (h : -9223372036854775808 ≤ n ∧ n ≤ 9223372036854775807) : wrap64 n = n := by unfold wrap64; omega

/-- Parse at every text. -/
theorem parse_any (s : ByteArray) (w : World) (hs : s.size ≤ 2000000) (hp : PowC w.heap.size w) :
    Calls Tryd.prog 20 #[.string s] w fun e w' => e = .returned (.tuple #[.int .i64 (Cl.parseF s).1, .int .i64 (Cl.parseF s).2]) ∧ Below w.heap.size w w' := by
  have l1 := Cl.cutAt_len 47 s.data.toList
  have hs' : s.data.toList.length = s.size := Array.length_toList
  have l2 := Cl.cutAt_len 58 (Cl.cutAt 47 s.data.toList).2.1
  have C1 := Lib.hid (fun v (h : Below w.heap.size w v) => Cl.cut_any 47 s v hs (hp.bt h))
  have C2 := Lib.hid (fun v (h : Below w.heap.size w v) => Cl.cut_any 58 ⟨(Cl.cutAt 47 s.data.toList).2.1.toArray⟩ v (by rw [Cl.bsize]; omega) (hp.bt h))
  have A1 := Lib.hid (fun v (h : Below w.heap.size w v) => Cl.atoi_any ⟨(Cl.cutAt 47 s.data.toList).1.toArray⟩ v (by rw [Cl.bsize]; omega) (hp.bt h))
  have A2 := Lib.hid (fun v (h : Below w.heap.size w v) => Cl.atoi_any ⟨(Cl.cutAt 58 (Cl.cutAt 47 s.data.toList).2.1).1.toArray⟩ v (by rw [Cl.bsize]; omega) (hp.bt h))
  have A3 := Lib.hid (fun v (h : Below w.heap.size w v) => Cl.atoi_any ⟨(Cl.cutAt 58 (Cl.cutAt 47 s.data.toList).2.1).2.1.toArray⟩ v (by rw [Cl.bsize]; omega) (hp.bt h))
  have hl : ∀ l : List UInt8, (⟨l.toArray⟩ : ByteArray).data.toList = l := fun l => rfl
  rw [hl] at C2 A1 A2 A3
  have T := Lib.hid (fun v (h : Below w.heap.size w v) => text_any (wrap64 (wrap64 (wrap64 (Cl.atoiV (Cl.cutAt 47 s.data.toList).1 * 1440) + wrap64 (Cl.atoiV (Cl.cutAt 58 (Cl.cutAt 47 s.data.toList).2.1).1 * 60)) + Cl.atoiV (Cl.cutAt 58 (Cl.cutAt 47 s.data.toList).2.1).2.1)) v (hp.bt h))
  refine parse_walk s _ _ _ _ _ _ _ _ _ _ _ (Cl.parseF s) w ?_ C1 C2 A1 A2 A3 T
  by_cases hx : ∃ t : Nat, t ≤ 144001439 ∧ Cl.txt t = s
  · obtain ⟨t, ht, rfl⟩ := hx
    rw [Cl.txt_list, Cl.txl_cut]
    dsimp only
    rw [Cl.txl_cut2]
    dsimp only
    have e1 : Cl.atoiV (Lib.decDigits (t / 1440)) = ((t / 1440 : Nat) : Int) := by unfold Cl.atoiV; rw [Cl.atoi_dec (by omega)]
    have e2 : Cl.atoiV (Cl.tw (t % 1440 / 60)) = ((t % 1440 / 60 : Nat) : Int) := by unfold Cl.atoiV; rw [Cl.atoi_tw (by omega)]
    have e3 : Cl.atoiV (Cl.tw (t % 1440 % 60)) = ((t % 1440 % 60 : Nat) : Int) := by unfold Cl.atoiV; rw [Cl.atoi_tw (by omega)]
    rw [e1, e2, e3, Cl.w64 (n := ((t / 1440 : Nat) : Int) * 1440) (by omega), Cl.w64 (n := ((t % 1440 / 60 : Nat) : Int) * 60) (by omega), Cl.w64 (n := ((t / 1440 : Nat) : Int) * 1440 + ((t % 1440 / 60 : Nat) : Int) * 60) (by omega), Cl.w64 (n := ((t / 1440 : Nat) : Int) * 1440 + ((t % 1440 / 60 : Nat) : Int) * 60 + ((t % 1440 % 60 : Nat) : Int)) (by omega)]
    rw [show ((t / 1440 : Nat) : Int) * 1440 + ((t % 1440 / 60 : Nat) : Int) * 60 + ((t % 1440 % 60 : Nat) : Int) = (t : Int) by omega]
    have hi : Cl.isI (t : Int) = true := (Cl.isI_iff _).2 (by omega)
    unfold Cl.textF
    rw [hi, Cl.parseF_txt ht]
    exact .inr (.inr ⟨rfl, by simp, rfl⟩)
  · have hn : ∀ t : Nat, t ≤ 144001439 → Cl.txt t ≠ s := fun t h1 h2 => hx ⟨t, h1, h2⟩
    rw [Cl.parseF_not hn]
    generalize wrap64 (wrap64 (wrap64 (Cl.atoiV (Cl.cutAt 47 s.data.toList).1 * 1440) + wrap64 (Cl.atoiV (Cl.cutAt 58 (Cl.cutAt 47 s.data.toList).2.1).1 * 60)) + Cl.atoiV (Cl.cutAt 58 (Cl.cutAt 47 s.data.toList).2.1).2.1) = n
    unfold Cl.textF
    by_cases hi : Cl.isI n = true
    · rw [if_pos hi]
      have h2 := (Cl.isI_iff _).1 hi
      exact .inr (.inl ⟨rfl, Cl.bytes_ne (hn _ (by omega)), rfl⟩)
    · rw [if_neg hi]
      exact .inl ⟨by decide, rfl⟩
end Go.Proofs.YtkkgefefbamcpaaDoor
