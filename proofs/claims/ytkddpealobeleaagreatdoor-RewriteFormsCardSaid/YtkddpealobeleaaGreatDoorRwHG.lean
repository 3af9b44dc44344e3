import Derived.Test.YtkddpealobeleaaGreatDoorRwHdA
import Derived.Lib.QuietBelow
/- Layer 10: the head of every statement: the chapter's examples. -/
set_option linter.unusedSimpArgs false
set_option linter.unusedVariables false
namespace Go.Proofs.YtkddpealobeleaaGreatDoor
open Go.RowKit Go.Shelf
set_option maxRecDepth 100000
set_option maxHeartbeats 4000000
theorem Rw.strs_new (W : World) (t : TypeId) (l : List ByteArray) (N : Nat) (hN : N = W.heap.size) : Strs (W.alloc (.cells (l.map Value.string).toArray t)) (W.alloc (.cells (l.map Value.string).toArray t)).heap.size (some ⟨N, 0, none⟩) l := fun k hk => by
  subst hN
  refine ⟨_, rfl, by simp, ?_⟩
  have h1 := heap_alloc_new W (.cells (l.map Value.string).toArray t)
  have h2 : (⟨W.heap.size, 0, none⟩ : Addr).add k = ⟨W.heap.size, k, none⟩ := by unfold Addr.add; split <;> simp_all
  rw [h2]
  simp only [World.cell?, h1]
  simp [hk]
theorem Rw.zs_new (W : World) (t : TypeId) (l : List Int) (N : Nat) (hN : N = W.heap.size) : Rw.Zs (W.alloc (.cells (l.map fun x => Value.int .i64 x).toArray t)) (W.alloc (.cells (l.map fun x => Value.int .i64 x).toArray t)).heap.size (some ⟨N, 0, none⟩) l := by
  subst hN
  exact Rw.Zs.of (heap_alloc_new W _)
theorem Rw.vs_two (W : World) (t : TypeId) (x y : Rw.Vr) : Rw.Vs (W.alloc (.cells #[.string x.word, .int .i64 x.e, .int .i64 x.cost, .string y.word, .int .i64 y.e, .int .i64 y.cost] t)) (W.alloc (.cells #[.string x.word, .int .i64 x.e, .int .i64 x.cost, .string y.word, .int .i64 y.e, .int .i64 y.cost] t)).heap.size (some ⟨W.heap.size, 0, none⟩) [x, y] := fun k hk => by
  have hb : Rw.Bx (W.alloc (.cells #[.string x.word, .int .i64 x.e, .int .i64 x.cost, .string y.word, .int .i64 y.e, .int .i64 y.cost] t)) W.heap.size _ _ := heap_alloc_new _ _
  have hk2 : k = 0 ∨ k = 1 := by simp at hk; omega
  rcases hk2 with rfl | rfl
  · exact ⟨_, rfl, by simp, hb.c 0 _ rfl, hb.c 1 _ rfl, hb.c 2 _ rfl⟩
  · exact ⟨_, rfl, by simp, hb.c 3 _ rfl, hb.c 4 _ rfl, hb.c 5 _ rfl⟩
theorem Rw.ex0_in (w : World) : Rw.ex0.In w := ⟨fun k hk => absurd hk (by simp [Rw.ex0]), fun k hk => absurd hk (by simp [Rw.ex0]), fun k hk => absurd hk (by simp [Rw.ex0]), fun x hx => absurd hx (by simp [Rw.ex0]), fun x hx => absurd hx (by simp [Rw.ex0]), fun x hx => absurd hx (by simp [Rw.ex0]), by simp [Rw.ex0], by simp [Rw.ex0], by simp [Rw.ex0], by simp [Rw.ex0, maxLen], by simp [Rw.ex0, maxLen], by simp [Rw.ex0, maxLen]⟩
theorem Rw.head_any (w : World) (hp : Rw.Pa w.heap.size w) : Calls Tryz.prog 12 #[] w fun e w' => e = .returned (.bool true) ∧ Below w.heap.size w w' := by
  have HP := Lib.hid (fun v (hv : Below w.heap.size w v) => hp.bt hv)
  have T1 := Lib.hid (Rw.table_any w)
  clear hp
  go_enter Tryz.func12, Tryz.ntmps12
  go_wp2_with fail
  refine T1.out.mono ?_
  rintro e w1 ⟨⟨A, a, B, b, C, c, R, D, E, d, o, i⟩, rfl, hin, hR, hD, hE, hd, ho, hi, g1⟩
  simp only at hR hD hE hd ho hi
  subst hR hD hE hd ho hi
  have HIN := Lib.hid (show (Rw.ex A a B b C c).In w1 from hin)
  have HB1 := Lib.hid g1
  rw [show (Rw.TV.val ⟨A, a, B, b, C, c, Rw.exR, [⟨1, ⟨#[97, 108]⟩, 1⟩], [⟨1, ⟨#[97]⟩, 3⟩], 4, 2, 1⟩ : Value) = .agg #[.slice A 6 a, .slice B 1 b, .slice C 1 c, .int .i64 4, .int .i64 2, .int .i64 1] from rfl]
  have hA : ∃ ad, A = some ad ∧ 6 ≤ a ∧ a ≤ maxLen := by
    obtain ⟨ad, e, _⟩ := HIN.out.r 0 (by show 0 < Rw.exR.length; decide)
    exact ⟨ad, e, HIN.out.la, HIN.out.ma⟩
  obtain ⟨ad, rfl, ha6, hamx⟩ := hA
  have HAM := Lib.hid hamx
  clear hin g1 T1 hamx
  have C1 : Hid (∀ v, Below w1.heap.size w1 v → Calls Tryz.prog 14 #[.agg #[.slice (some ad) 6 a, .slice B 1 b, .slice C 1 c, .int .i64 4, .int .i64 2, .int .i64 1], .int .i64 1, .string ⟨#[97, 110, 110, 97]⟩, .int .i64 5] v fun e w' => ∃ u g, e = .returned (.tuple #[u, .slice (some ⟨g, 0, none⟩) 2 2, .int .i64 0]) ∧ OwnS w' v.heap.size u [⟨#[97, 110, 97]⟩, ⟨#[97, 110, 110, 97]⟩] ∧
      Rw.Zs w' w'.heap.size (some ⟨g, 0, none⟩) [1, 0] ∧ Below v.heap.size v w') :=
    Lib.hid (fun v hv => Rw.forms_is (Rw.ex (some ad) a B b C c) 1 ⟨#[97, 110, 110, 97]⟩ 5 v (HIN.out.bt hv) (HP.out v (Nm.Nb HB1.out hv)).tb (by decide) [([97, 110, 97], 1), ([97, 110, 110, 97], 0)] (Rw.ex_isL (some ad) a B b C c _ true (by decide +kernel)) (Rw.ex_f1 (some ad) a B b C c) (by decide))
  have C2 : Hid (∀ v, Below w1.heap.size w1 v → Calls Tryz.prog 14 #[.agg #[.slice (some ad) 6 a, .slice B 1 b, .slice C 1 c, .int .i64 4, .int .i64 2, .int .i64 1], .int .i64 1, .string ⟨#[116, 104, 97]⟩, .int .i64 9] v fun e w' => ∃ u g, e = .returned (.tuple #[u, .slice (some ⟨g, 0, none⟩) 2 2, .int .i64 0]) ∧ OwnS w' v.heap.size u [⟨#[116, 97]⟩, ⟨#[116, 104, 97]⟩] ∧
      Rw.Zs w' w'.heap.size (some ⟨g, 0, none⟩) [2, 0] ∧ Below v.heap.size v w') :=
    Lib.hid (fun v hv => Rw.forms_is (Rw.ex (some ad) a B b C c) 1 ⟨#[116, 104, 97]⟩ 9 v (HIN.out.bt hv) (HP.out v (Nm.Nb HB1.out hv)).tb (by decide) [([116, 97], 2), ([116, 104, 97], 0)] (Rw.ex_isL (some ad) a B b C c _ true (by decide +kernel)) (Rw.ex_f2 (some ad) a B b C c) (by decide))
  have C3 : Hid (∀ v, Below w1.heap.size w1 v → Calls Tryz.prog 14 #[.agg #[.slice (some ad) 6 a, .slice B 1 b, .slice C 1 c, .int .i64 4, .int .i64 2, .int .i64 1], .int .i64 1, .string ⟨#[98, 97, 98]⟩, .int .i64 100] v fun e w' => ∃ u g, e = .returned (.tuple #[u, .slice (some ⟨g, 0, none⟩) 0 0, .int .i64 0]) ∧ OwnS w' v.heap.size u [] ∧
      Rw.Zs w' w'.heap.size (some ⟨g, 0, none⟩) [] ∧ Below v.heap.size v w') :=
    Lib.hid (fun v hv => Rw.forms_is (Rw.ex (some ad) a B b C c) 1 ⟨#[98, 97, 98]⟩ 100 v (HIN.out.bt hv) (HP.out v (Nm.Nb HB1.out hv)).tb (by decide) [] (Rw.ex_isL (some ad) a B b C c _ true (by decide +kernel)) (Rw.ex_f3 (some ad) a B b C c) (by decide))
  have C4 : Hid (∀ v, Below w1.heap.size w1 v → Calls Tryz.prog 14 #[.agg #[.slice (some ad) 6 a, .slice B 1 b, .slice C 1 c, .int .i64 4, .int .i64 2, .int .i64 1], .int .i64 1, .string ⟨#[65, 110, 110, 97]⟩, .int .i64 5] v fun e w' => e = .returned (.tuple #[.slice none 0 0, .slice none 0 0, .int .i64 1]) ∧ Below v.heap.size v w') :=
    Lib.hid (fun v hv => Rw.forms_bad (Rw.ex (some ad) a B b C c) 1 ⟨#[65, 110, 110, 97]⟩ 5 v (HIN.out.bt hv) (HP.out v (Nm.Nb HB1.out hv)).tb (by decide) (Rw.ex_isL (some ad) a B b C c _ false (by decide +kernel)))
  have C5 : Hid (∀ v, Below w1.heap.size w1 v → Calls Tryz.prog 16 #[.agg #[.slice (some ad) 6 a, .slice B 1 b, .slice C 1 c, .int .i64 4, .int .i64 2, .int .i64 1], .int .i64 1, .string ⟨#[97, 110, 110, 97]⟩] v fun e w' => ∃ u, e = .returned (.tuple #[u, .int .i64 0]) ∧ Rw.OwnK Rw.KV w' v.heap.size u [⟨⟨#[97, 110, 110, 97]⟩, -1, 0⟩, ⟨⟨#[97, 110, 110]⟩, 0, 3⟩] ∧ Below v.heap.size v w') :=
    Lib.hid (fun v hv => by
      have := Rw.variants_any (Rw.ex (some ad) a B b C c) 1 ⟨#[97, 110, 110, 97]⟩ v (HIN.out.bt hv) (HP.out v (Nm.Nb HB1.out hv)).tb (by decide)
      unfold Rw.VPost Rw.err at this
      rw [if_pos (Rw.ex_isL (some ad) a B b C c _ true (by decide +kernel)), Rw.ex_vars] at this
      exact this)
  have C6 : Hid (∀ v, Below w1.heap.size w1 v → Calls Tryz.prog 18 #[.agg #[.slice (some ad) 6 a, .slice B 1 b, .slice C 1 c, .int .i64 4, .int .i64 2, .int .i64 1], .int .i64 1, .string ⟨#[97, 108]⟩] v fun e w' => e = .returned (.tuple #[.int .i64 1, .int .i64 0]) ∧ Below v.heap.size v w') :=
    Lib.hid (fun v hv => by
      have := Rw.drop_any (Rw.ex (some ad) a B b C c) 1 ⟨#[97, 108]⟩ v (HIN.out.bt hv) (HP.out v (Nm.Nb HB1.out hv)).tb (by decide)
      unfold Rw.err at this
      rw [if_pos (Rw.ex_isL (some ad) a B b C c _ true (by decide +kernel)), Rw.ex_drop1] at this
      exact this)
  have C7 : Hid (∀ v, Below w1.heap.size w1 v → Calls Tryz.prog 18 #[.agg #[.slice (some ad) 6 a, .slice B 1 b, .slice C 1 c, .int .i64 4, .int .i64 2, .int .i64 1], .int .i64 1, .string ⟨#[97, 110, 110, 97]⟩] v fun e w' => e = .returned (.tuple #[.int .i64 4, .int .i64 0]) ∧ Below v.heap.size v w') :=
    Lib.hid (fun v hv => by
      have := Rw.drop_any (Rw.ex (some ad) a B b C c) 1 ⟨#[97, 110, 110, 97]⟩ v (HIN.out.bt hv) (HP.out v (Nm.Nb HB1.out hv)).tb (by decide)
      unfold Rw.err at this
      rw [if_pos (Rw.ex_isL (some ad) a B b C c _ true (by decide +kernel)), Rw.ex_drop2] at this
      exact this)
  have C8 : Hid (∀ v, Below w1.heap.size w1 v → Calls Tryz.prog 24 #[.agg #[.slice (some { block := ad.block, off := ad.off + 20 }) 1 (a - 5), .slice none 0 0, .slice C 1 c, .int .i64 4, .int .i64 2, .int .i64 1]] v fun e w' => e = .returned (.tuple #[.string ⟨#[114, 117, 108, 101, 32, 112, 108, 97, 105, 110, 32, 34, 116, 104, 34, 32, 116, 111, 32, 34, 116, 34, 32, 99, 111, 115, 116, 32, 50, 59, 10, 101, 110, 100, 32, 112, 108, 97, 105, 110, 32, 34, 97, 34, 32, 51, 59, 10, 99, 111, 115, 116, 115, 32, 52, 32, 50, 32, 49, 59, 10]⟩, .int .i64 0]) ∧ Below v.heap.size v w') :=
    Lib.hid (fun v hv => by
      have hi := HIN.out.bt hv
      have := Rw.text_ok (Rw.ex5 (some (ad.add 20)) (a - 5) C c) v ⟨hi.r.drop 5, fun k hk => absurd hk (by simp [Rw.ex5]), hi.e, fun x hx => Rw.exR_good x (List.mem_of_mem_drop (i := 5) hx), fun x hx => absurd hx (by simp [Rw.ex5]), hi.ge, by
        have := hi.la
        simp only [Rw.ex5, List.length_cons, List.length_nil]
        omega, by simp [Rw.ex5], hi.lc, by
        have := HAM.out
        simp only [Rw.ex5]
        omega, by simp [Rw.ex5, maxLen], hi.mc⟩ (HP.out v (Nm.Nb HB1.out hv)) (Rw.ex5_ok _ _ _ _)
      rw [Rw.ex5_text] at this
      unfold Rw.exTx at this
      exact this)
  have C9 : Hid (∀ v, Below w1.heap.size w1 v → Calls Tryz.prog 20 #[.agg #[.slice (some ad) 6 a, .slice B 1 b, .slice C 1 c, .int .i64 4, .int .i64 2, .int .i64 1]] v fun e w' => e = .returned (.bool true) ∧ Below v.heap.size v w') :=
    Lib.hid (fun v hv => by
      have := Rw.validT_any (Rw.ex (some ad) a B b C c) v (HIN.out.bt hv) (HP.out v (Nm.Nb HB1.out hv)).tb
      rw [Rw.ex_ok] at this
      exact this)
  have C10 : Hid (∀ v, Below w1.heap.size w1 v → Calls Tryz.prog 20 #[.agg #[.slice none 0 0, .slice none 0 0, .slice none 0 0, .int .i64 0, .int .i64 0, .int .i64 0]] v fun e w' => e = .returned (.bool false) ∧ Below v.heap.size v w') :=
    Lib.hid (fun v hv => by
      have := Rw.validT_any Rw.ex0 v (Rw.ex0_in v) (HP.out v (Nm.Nb HB1.out hv)).tb
      rw [Rw.ex0_ok] at this
      exact this)
  have hbV := Nm.al w1 (.cells #[.slice (some ad) 6 a, .slice B 1 b, .slice C 1 c, .int .i64 4, .int .i64 2, .int .i64 1] 25)
  have BX : Hid (Rw.Bx (w1.alloc (.cells #[.slice (some ad) 6 a, .slice B 1 b, .slice C 1 c, .int .i64 4, .int .i64 2, .int .i64 1] 25)) w1.heap.size #[.slice (some ad) 6 a, .slice B 1 b, .slice C 1 c, .int .i64 4, .int .i64 2, .int .i64 1] 25) := Lib.hid (heap_alloc_new _ _)
  have HV := Lib.hid hbV
  clear hbV HIN
  have x0 : (w1.alloc (.cells #[.slice (some ad) 6 a, .slice B 1 b, .slice C 1 c, .int .i64 4, .int .i64 2, .int .i64 1] 25)).cell? ⟨w1.heap.size, 0, none⟩ = some (.slice (some ad) 6 a) := BX.out.c 0 _ rfl
  have x1 : (w1.alloc (.cells #[.slice (some ad) 6 a, .slice B 1 b, .slice C 1 c, .int .i64 4, .int .i64 2, .int .i64 1] 25)).cell? ⟨w1.heap.size, 1, none⟩ = some (.slice B 1 b) := BX.out.c 1 _ rfl
  have x2 : (w1.alloc (.cells #[.slice (some ad) 6 a, .slice B 1 b, .slice C 1 c, .int .i64 4, .int .i64 2, .int .i64 1] 25)).cell? ⟨w1.heap.size, 2, none⟩ = some (.slice C 1 c) := BX.out.c 2 _ rfl
  have x3 : (w1.alloc (.cells #[.slice (some ad) 6 a, .slice B 1 b, .slice C 1 c, .int .i64 4, .int .i64 2, .int .i64 1] 25)).cell? ⟨w1.heap.size, 3, none⟩ = some (.int .i64 4) := BX.out.c 3 _ rfl
  have x4 : (w1.alloc (.cells #[.slice (some ad) 6 a, .slice B 1 b, .slice C 1 c, .int .i64 4, .int .i64 2, .int .i64 1] 25)).cell? ⟨w1.heap.size, 4, none⟩ = some (.int .i64 2) := BX.out.c 4 _ rfl
  have x5 : (w1.alloc (.cells #[.slice (some ad) 6 a, .slice B 1 b, .slice C 1 c, .int .i64 4, .int .i64 2, .int .i64 1] 25)).cell? ⟨w1.heap.size, 5, none⟩ = some (.int .i64 1) := BX.out.c 5 _ rfl
  go_wp2_with fail
  refine (C1.out _ HV.out).mono ?_
  rintro e w2 ⟨u, gg1, rfl, o1, z1, g⟩
  obtain ⟨A1, c1, rfl, s1, _, _⟩ := o1.form
  have HV2 := Lib.hid (Nm.Nb HV.out g)
  have BX2 := Lib.hid (BX.out.bt g)
  have S1 := Lib.hid s1
  have Z1 := Lib.hid z1
  clear s1 z1 o1 C1
  clear HV BX g x0 x1 x2 x3 x4 x5
  have HV := HV2
  have BX := BX2
  clear HV2 BX2
  have x0 : w2.cell? ⟨w1.heap.size, 0, none⟩ = some (.slice (some ad) 6 a) := BX.out.c 0 _ rfl
  have x1 : w2.cell? ⟨w1.heap.size, 1, none⟩ = some (.slice B 1 b) := BX.out.c 1 _ rfl
  have x2 : w2.cell? ⟨w1.heap.size, 2, none⟩ = some (.slice C 1 c) := BX.out.c 2 _ rfl
  have x3 : w2.cell? ⟨w1.heap.size, 3, none⟩ = some (.int .i64 4) := BX.out.c 3 _ rfl
  have x4 : w2.cell? ⟨w1.heap.size, 4, none⟩ = some (.int .i64 2) := BX.out.c 4 _ rfl
  have x5 : w2.cell? ⟨w1.heap.size, 5, none⟩ = some (.int .i64 1) := BX.out.c 5 _ rfl
  go_wp2_with fail
  refine (C2.out _ HV.out).mono ?_
  rintro e w3 ⟨u, gg2, rfl, o1, z1, g⟩
  obtain ⟨A2, c2, rfl, s1, _, _⟩ := o1.form
  have HV3 := Lib.hid (Nm.Nb HV.out g)
  have BX3 := Lib.hid (BX.out.bt g)
  have S1' := Lib.hid (Nm.sbt S1.out g)
  clear S1
  have S1 := S1'
  clear S1'
  have Z1' := Lib.hid (Rw.Zs.bt Z1.out g)
  clear Z1
  have Z1 := Z1'
  clear Z1'
  have S2 := Lib.hid s1
  have Z2 := Lib.hid z1
  clear s1 z1 o1 C2
  clear HV BX g x0 x1 x2 x3 x4 x5
  have HV := HV3
  have BX := BX3
  clear HV3 BX3
  have x0 : w3.cell? ⟨w1.heap.size, 0, none⟩ = some (.slice (some ad) 6 a) := BX.out.c 0 _ rfl
  have x1 : w3.cell? ⟨w1.heap.size, 1, none⟩ = some (.slice B 1 b) := BX.out.c 1 _ rfl
  have x2 : w3.cell? ⟨w1.heap.size, 2, none⟩ = some (.slice C 1 c) := BX.out.c 2 _ rfl
  have x3 : w3.cell? ⟨w1.heap.size, 3, none⟩ = some (.int .i64 4) := BX.out.c 3 _ rfl
  have x4 : w3.cell? ⟨w1.heap.size, 4, none⟩ = some (.int .i64 2) := BX.out.c 4 _ rfl
  have x5 : w3.cell? ⟨w1.heap.size, 5, none⟩ = some (.int .i64 1) := BX.out.c 5 _ rfl
  go_wp2_with fail
  refine (C3.out _ HV.out).mono ?_
  rintro e w4 ⟨u, gg3, rfl, o1, z1, g⟩
  obtain ⟨A3, c3, rfl, s1, _, _⟩ := o1.form
  have HV4 := Lib.hid (Nm.Nb HV.out g)
  have BX4 := Lib.hid (BX.out.bt g)
  have S1' := Lib.hid (Nm.sbt S1.out g)
  clear S1
  have S1 := S1'
  clear S1'
  have Z1' := Lib.hid (Rw.Zs.bt Z1.out g)
  clear Z1
  have Z1 := Z1'
  clear Z1'
  have S2' := Lib.hid (Nm.sbt S2.out g)
  clear S2
  have S2 := S2'
  clear S2'
  have Z2' := Lib.hid (Rw.Zs.bt Z2.out g)
  clear Z2
  have Z2 := Z2'
  clear Z2'
  clear s1 z1 o1 C3
  clear HV BX g x0 x1 x2 x3 x4 x5
  have HV := HV4
  have BX := BX4
  clear HV4 BX4
  have x0 : w4.cell? ⟨w1.heap.size, 0, none⟩ = some (.slice (some ad) 6 a) := BX.out.c 0 _ rfl
  have x1 : w4.cell? ⟨w1.heap.size, 1, none⟩ = some (.slice B 1 b) := BX.out.c 1 _ rfl
  have x2 : w4.cell? ⟨w1.heap.size, 2, none⟩ = some (.slice C 1 c) := BX.out.c 2 _ rfl
  have x3 : w4.cell? ⟨w1.heap.size, 3, none⟩ = some (.int .i64 4) := BX.out.c 3 _ rfl
  have x4 : w4.cell? ⟨w1.heap.size, 4, none⟩ = some (.int .i64 2) := BX.out.c 4 _ rfl
  have x5 : w4.cell? ⟨w1.heap.size, 5, none⟩ = some (.int .i64 1) := BX.out.c 5 _ rfl
  go_wp2_with fail
  refine (C4.out _ HV.out).mono ?_
  rintro e w5 ⟨rfl, g⟩
  have HV5 := Lib.hid (Nm.Nb HV.out g)
  have BX5 := Lib.hid (BX.out.bt g)
  have S1' := Lib.hid (Nm.sbt S1.out g)
  clear S1
  have S1 := S1'
  clear S1'
  have Z1' := Lib.hid (Rw.Zs.bt Z1.out g)
  clear Z1
  have Z1 := Z1'
  clear Z1'
  have S2' := Lib.hid (Nm.sbt S2.out g)
  clear S2
  have S2 := S2'
  clear S2'
  have Z2' := Lib.hid (Rw.Zs.bt Z2.out g)
  clear Z2
  have Z2 := Z2'
  clear Z2'
  clear C4
  clear HV BX g x0 x1 x2 x3 x4 x5
  have HV := HV5
  have BX := BX5
  clear HV5 BX5
  have x0 : w5.cell? ⟨w1.heap.size, 0, none⟩ = some (.slice (some ad) 6 a) := BX.out.c 0 _ rfl
  have x1 : w5.cell? ⟨w1.heap.size, 1, none⟩ = some (.slice B 1 b) := BX.out.c 1 _ rfl
  have x2 : w5.cell? ⟨w1.heap.size, 2, none⟩ = some (.slice C 1 c) := BX.out.c 2 _ rfl
  have x3 : w5.cell? ⟨w1.heap.size, 3, none⟩ = some (.int .i64 4) := BX.out.c 3 _ rfl
  have x4 : w5.cell? ⟨w1.heap.size, 4, none⟩ = some (.int .i64 2) := BX.out.c 4 _ rfl
  have x5 : w5.cell? ⟨w1.heap.size, 5, none⟩ = some (.int .i64 1) := BX.out.c 5 _ rfl
  go_wp2_with fail
  refine (C5.out _ HV.out).mono ?_
  rintro e w6 ⟨u, rfl, o1, g⟩
  obtain ⟨A5, c5, rfl, v1, _, _⟩ := o1.vs
  have HV6 := Lib.hid (Nm.Nb HV.out g)
  have BX6 := Lib.hid (BX.out.bt g)
  have S1' := Lib.hid (Nm.sbt S1.out g)
  clear S1
  have S1 := S1'
  clear S1'
  have Z1' := Lib.hid (Rw.Zs.bt Z1.out g)
  clear Z1
  have Z1 := Z1'
  clear Z1'
  have S2' := Lib.hid (Nm.sbt S2.out g)
  clear S2
  have S2 := S2'
  clear S2'
  have Z2' := Lib.hid (Rw.Zs.bt Z2.out g)
  clear Z2
  have Z2 := Z2'
  clear Z2'
  have V5 := Lib.hid v1
  clear v1 o1 C5
  clear HV BX g x0 x1 x2 x3 x4 x5
  have HV := HV6
  have BX := BX6
  clear HV6 BX6
  have x0 : w6.cell? ⟨w1.heap.size, 0, none⟩ = some (.slice (some ad) 6 a) := BX.out.c 0 _ rfl
  have x1 : w6.cell? ⟨w1.heap.size, 1, none⟩ = some (.slice B 1 b) := BX.out.c 1 _ rfl
  have x2 : w6.cell? ⟨w1.heap.size, 2, none⟩ = some (.slice C 1 c) := BX.out.c 2 _ rfl
  have x3 : w6.cell? ⟨w1.heap.size, 3, none⟩ = some (.int .i64 4) := BX.out.c 3 _ rfl
  have x4 : w6.cell? ⟨w1.heap.size, 4, none⟩ = some (.int .i64 2) := BX.out.c 4 _ rfl
  have x5 : w6.cell? ⟨w1.heap.size, 5, none⟩ = some (.int .i64 1) := BX.out.c 5 _ rfl
  go_wp2_with fail
  refine (C6.out _ HV.out).mono ?_
  rintro e w7 ⟨rfl, g⟩
  have HV7 := Lib.hid (Nm.Nb HV.out g)
  have BX7 := Lib.hid (BX.out.bt g)
  have S1' := Lib.hid (Nm.sbt S1.out g)
  clear S1
  have S1 := S1'
  clear S1'
  have Z1' := Lib.hid (Rw.Zs.bt Z1.out g)
  clear Z1
  have Z1 := Z1'
  clear Z1'
  have S2' := Lib.hid (Nm.sbt S2.out g)
  clear S2
  have S2 := S2'
  clear S2'
  have Z2' := Lib.hid (Rw.Zs.bt Z2.out g)
  clear Z2
  have Z2 := Z2'
  clear Z2'
  have V5' := Lib.hid (Rw.Vs.bt V5.out g)
  clear V5
  have V5 := V5'
  clear V5'
  clear C6
  clear HV BX g x0 x1 x2 x3 x4 x5
  have HV := HV7
  have BX := BX7
  clear HV7 BX7
  have x0 : w7.cell? ⟨w1.heap.size, 0, none⟩ = some (.slice (some ad) 6 a) := BX.out.c 0 _ rfl
  have x1 : w7.cell? ⟨w1.heap.size, 1, none⟩ = some (.slice B 1 b) := BX.out.c 1 _ rfl
  have x2 : w7.cell? ⟨w1.heap.size, 2, none⟩ = some (.slice C 1 c) := BX.out.c 2 _ rfl
  have x3 : w7.cell? ⟨w1.heap.size, 3, none⟩ = some (.int .i64 4) := BX.out.c 3 _ rfl
  have x4 : w7.cell? ⟨w1.heap.size, 4, none⟩ = some (.int .i64 2) := BX.out.c 4 _ rfl
  have x5 : w7.cell? ⟨w1.heap.size, 5, none⟩ = some (.int .i64 1) := BX.out.c 5 _ rfl
  go_wp2_with fail
  refine (C7.out _ HV.out).mono ?_
  rintro e w8 ⟨rfl, g⟩
  have HV8 := Lib.hid (Nm.Nb HV.out g)
  have BX8 := Lib.hid (BX.out.bt g)
  have S1' := Lib.hid (Nm.sbt S1.out g)
  clear S1
  have S1 := S1'
  clear S1'
  have Z1' := Lib.hid (Rw.Zs.bt Z1.out g)
  clear Z1
  have Z1 := Z1'
  clear Z1'
  have S2' := Lib.hid (Nm.sbt S2.out g)
  clear S2
  have S2 := S2'
  clear S2'
  have Z2' := Lib.hid (Rw.Zs.bt Z2.out g)
  clear Z2
  have Z2 := Z2'
  clear Z2'
  have V5' := Lib.hid (Rw.Vs.bt V5.out g)
  clear V5
  have V5 := V5'
  clear V5'
  clear C7
  clear HV BX g x0 x1 x2 x3 x4 x5
  have HV := HV8
  have BX := BX8
  clear HV8 BX8
  have x0 : w8.cell? ⟨w1.heap.size, 0, none⟩ = some (.slice (some ad) 6 a) := BX.out.c 0 _ rfl
  have x1 : w8.cell? ⟨w1.heap.size, 1, none⟩ = some (.slice B 1 b) := BX.out.c 1 _ rfl
  have x2 : w8.cell? ⟨w1.heap.size, 2, none⟩ = some (.slice C 1 c) := BX.out.c 2 _ rfl
  have x3 : w8.cell? ⟨w1.heap.size, 3, none⟩ = some (.int .i64 4) := BX.out.c 3 _ rfl
  have x4 : w8.cell? ⟨w1.heap.size, 4, none⟩ = some (.int .i64 2) := BX.out.c 4 _ rfl
  have x5 : w8.cell? ⟨w1.heap.size, 5, none⟩ = some (.int .i64 1) := BX.out.c 5 _ rfl
  have h5a : (5 : Int) ≤ (a : Int) := by omega
  have h56 : (5 : Int) ≤ 6 := by decide
  go_wp2_with fail
  have ha5 : ¬ a = 5 := by omega
  have X0 := fun dq os => cell_regrown x0 dq os
  have X2 := fun dq os => cell_regrown x2 dq os
  have C8r := Lib.hid (fun dq os => Calls.regrown_of (C8.out (Go.Sort.grow (redrawn w8 dq) os) (Nm.Nb HV.out (below_regrown w8 dq os))))
  refine wp_region_quiet_below (by kernel_rfl) (by kernel_rfl) ?_
  repeat (quiet_step ((go_at_call 24; exact C8r.out _ _)))
  refine wpQuiet_nil ?_
  intro _ hw'
  obtain ⟨⟨dq, osq⟩, hw''⟩ := hw'
  subst hw''
  have g : Below w8.heap.size w8 _ := below_regrown w8 dq osq
  generalize Go.Sort.grow (redrawn w8 dq) osq = w9 at *
  clear X0 X2 C8r
  have HV9 := Lib.hid (Nm.Nb HV.out g)
  have BX9 := Lib.hid (BX.out.bt g)
  have S1' := Lib.hid (Nm.sbt S1.out g)
  clear S1
  have S1 := S1'
  clear S1'
  have Z1' := Lib.hid (Rw.Zs.bt Z1.out g)
  clear Z1
  have Z1 := Z1'
  clear Z1'
  have S2' := Lib.hid (Nm.sbt S2.out g)
  clear S2
  have S2 := S2'
  clear S2'
  have Z2' := Lib.hid (Rw.Zs.bt Z2.out g)
  clear Z2
  have Z2 := Z2'
  clear Z2'
  have V5' := Lib.hid (Rw.Vs.bt V5.out g)
  clear V5
  have V5 := V5'
  clear V5'
  clear C8
  clear HV BX g x0 x1 x2 x3 x4 x5
  have HV := HV9
  have BX := BX9
  clear HV9 BX9
  have x0 : w9.cell? ⟨w1.heap.size, 0, none⟩ = some (.slice (some ad) 6 a) := BX.out.c 0 _ rfl
  have x1 : w9.cell? ⟨w1.heap.size, 1, none⟩ = some (.slice B 1 b) := BX.out.c 1 _ rfl
  have x2 : w9.cell? ⟨w1.heap.size, 2, none⟩ = some (.slice C 1 c) := BX.out.c 2 _ rfl
  have x3 : w9.cell? ⟨w1.heap.size, 3, none⟩ = some (.int .i64 4) := BX.out.c 3 _ rfl
  have x4 : w9.cell? ⟨w1.heap.size, 4, none⟩ = some (.int .i64 2) := BX.out.c 4 _ rfl
  have x5 : w9.cell? ⟨w1.heap.size, 5, none⟩ = some (.int .i64 1) := BX.out.c 5 _ rfl
  have q1 := Nm.al w9 (.cells #[.string ⟨#[97, 110, 97]⟩, .string ⟨#[97, 110, 110, 97]⟩] 9)
  have q2 := Nm.al (w9.alloc (.cells #[.string ⟨#[97, 110, 97]⟩, .string ⟨#[97, 110, 110, 97]⟩] 9)) (.cells #[.int .i64 1, .int .i64 0] 3)
  have SF := Rw.sameForms_any A1 c1 [⟨#[97, 110, 97]⟩, ⟨#[97, 110, 110, 97]⟩] (some ⟨gg1, 0, none⟩) 2 [1, 0] (some ⟨w9.heap.size, 0, none⟩) 2 [⟨#[97, 110, 97]⟩, ⟨#[97, 110, 110, 97]⟩] (some ⟨w9.heap.size + 1, 0, none⟩) 2 [1, 0] 2 2 2 2 rfl rfl rfl rfl ((w9.alloc (.cells #[.string ⟨#[97, 110, 97]⟩, .string ⟨#[97, 110, 110, 97]⟩] 9)).alloc (.cells #[.int .i64 1, .int .i64 0] 3)) (Nm.sbt (Nm.sbt S1.out q1) q2) (Rw.Zs.bt (Rw.Zs.bt Z1.out q1) q2) (Nm.sbt (Rw.strs_new w9 _ [⟨#[97, 110, 97]⟩, ⟨#[97, 110, 110, 97]⟩] _ rfl) q2) (Rw.zs_new _ _ [1, 0] _ (by simp)) (by decide)
  rw [show Rw.sameF [⟨#[97, 110, 97]⟩, ⟨#[97, 110, 110, 97]⟩] [1, 0] [⟨#[97, 110, 97]⟩, ⟨#[97, 110, 110, 97]⟩] [1, 0] = true from by decide +kernel] at SF
  have SF := Lib.hid SF
  have Q := Lib.hid (Nm.Nb q1 q2)
  clear q1 q2
  go_wp2_with fail
  refine SF.out.mono ?_
  rintro e w10 ⟨rfl, g0⟩
  have g := Nm.Nb Q.out g0
  have HV10 := Lib.hid (Nm.Nb HV.out g)
  have BX10 := Lib.hid (BX.out.bt g)
  have S1' := Lib.hid (Nm.sbt S1.out g)
  clear S1
  have S1 := S1'
  clear S1'
  have Z1' := Lib.hid (Rw.Zs.bt Z1.out g)
  clear Z1
  have Z1 := Z1'
  clear Z1'
  have S2' := Lib.hid (Nm.sbt S2.out g)
  clear S2
  have S2 := S2'
  clear S2'
  have Z2' := Lib.hid (Rw.Zs.bt Z2.out g)
  clear Z2
  have Z2 := Z2'
  clear Z2'
  have V5' := Lib.hid (Rw.Vs.bt V5.out g)
  clear V5
  have V5 := V5'
  clear V5'
  clear g0 Q SF
  clear HV BX g x0 x1 x2 x3 x4 x5
  have HV := HV10
  have BX := BX10
  clear HV10 BX10
  have x0 : w10.cell? ⟨w1.heap.size, 0, none⟩ = some (.slice (some ad) 6 a) := BX.out.c 0 _ rfl
  have x1 : w10.cell? ⟨w1.heap.size, 1, none⟩ = some (.slice B 1 b) := BX.out.c 1 _ rfl
  have x2 : w10.cell? ⟨w1.heap.size, 2, none⟩ = some (.slice C 1 c) := BX.out.c 2 _ rfl
  have x3 : w10.cell? ⟨w1.heap.size, 3, none⟩ = some (.int .i64 4) := BX.out.c 3 _ rfl
  have x4 : w10.cell? ⟨w1.heap.size, 4, none⟩ = some (.int .i64 2) := BX.out.c 4 _ rfl
  have x5 : w10.cell? ⟨w1.heap.size, 5, none⟩ = some (.int .i64 1) := BX.out.c 5 _ rfl
  have q1 := Nm.al w10 (.cells #[.string ⟨#[116, 97]⟩, .string ⟨#[116, 104, 97]⟩] 9)
  have q2 := Nm.al (w10.alloc (.cells #[.string ⟨#[116, 97]⟩, .string ⟨#[116, 104, 97]⟩] 9)) (.cells #[.int .i64 2, .int .i64 0] 3)
  have SF := Rw.sameForms_any A2 c2 [⟨#[116, 97]⟩, ⟨#[116, 104, 97]⟩] (some ⟨gg2, 0, none⟩) 2 [2, 0] (some ⟨w10.heap.size, 0, none⟩) 2 [⟨#[116, 97]⟩, ⟨#[116, 104, 97]⟩] (some ⟨w10.heap.size + 1, 0, none⟩) 2 [2, 0] 2 2 2 2 rfl rfl rfl rfl ((w10.alloc (.cells #[.string ⟨#[116, 97]⟩, .string ⟨#[116, 104, 97]⟩] 9)).alloc (.cells #[.int .i64 2, .int .i64 0] 3)) (Nm.sbt (Nm.sbt S2.out q1) q2) (Rw.Zs.bt (Rw.Zs.bt Z2.out q1) q2) (Nm.sbt (Rw.strs_new w10 _ [⟨#[116, 97]⟩, ⟨#[116, 104, 97]⟩] _ rfl) q2) (Rw.zs_new _ _ [2, 0] _ (by simp)) (by decide)
  rw [show Rw.sameF [⟨#[116, 97]⟩, ⟨#[116, 104, 97]⟩] [2, 0] [⟨#[116, 97]⟩, ⟨#[116, 104, 97]⟩] [2, 0] = true from by decide +kernel] at SF
  have SF := Lib.hid SF
  have Q := Lib.hid (Nm.Nb q1 q2)
  clear q1 q2
  go_wp2_with fail
  refine SF.out.mono ?_
  rintro e w11 ⟨rfl, g0⟩
  have g := Nm.Nb Q.out g0
  have HV11 := Lib.hid (Nm.Nb HV.out g)
  have BX11 := Lib.hid (BX.out.bt g)
  have S1' := Lib.hid (Nm.sbt S1.out g)
  clear S1
  have S1 := S1'
  clear S1'
  have Z1' := Lib.hid (Rw.Zs.bt Z1.out g)
  clear Z1
  have Z1 := Z1'
  clear Z1'
  have S2' := Lib.hid (Nm.sbt S2.out g)
  clear S2
  have S2 := S2'
  clear S2'
  have Z2' := Lib.hid (Rw.Zs.bt Z2.out g)
  clear Z2
  have Z2 := Z2'
  clear Z2'
  have V5' := Lib.hid (Rw.Vs.bt V5.out g)
  clear V5
  have V5 := V5'
  clear V5'
  clear g0 Q SF
  clear HV BX g x0 x1 x2 x3 x4 x5
  have HV := HV11
  have BX := BX11
  clear HV11 BX11
  have x0 : w11.cell? ⟨w1.heap.size, 0, none⟩ = some (.slice (some ad) 6 a) := BX.out.c 0 _ rfl
  have x1 : w11.cell? ⟨w1.heap.size, 1, none⟩ = some (.slice B 1 b) := BX.out.c 1 _ rfl
  have x2 : w11.cell? ⟨w1.heap.size, 2, none⟩ = some (.slice C 1 c) := BX.out.c 2 _ rfl
  have x3 : w11.cell? ⟨w1.heap.size, 3, none⟩ = some (.int .i64 4) := BX.out.c 3 _ rfl
  have x4 : w11.cell? ⟨w1.heap.size, 4, none⟩ = some (.int .i64 2) := BX.out.c 4 _ rfl
  have x5 : w11.cell? ⟨w1.heap.size, 5, none⟩ = some (.int .i64 1) := BX.out.c 5 _ rfl
  have q1 := Nm.al w11 (.cells #[.string ⟨#[97, 110, 110, 97]⟩, .int .i64 (-1), .int .i64 0, .string ⟨#[97, 110, 110]⟩, .int .i64 0, .int .i64 3] 59)
  have SF := Rw.sameVars_any A5 c5 [⟨⟨#[97, 110, 110, 97]⟩, -1, 0⟩, ⟨⟨#[97, 110, 110]⟩, 0, 3⟩] (some ⟨w11.heap.size, 0, none⟩) 2 [⟨⟨#[97, 110, 110, 97]⟩, -1, 0⟩, ⟨⟨#[97, 110, 110]⟩, 0, 3⟩] 2 2 rfl rfl (w11.alloc (.cells #[.string ⟨#[97, 110, 110, 97]⟩, .int .i64 (-1), .int .i64 0, .string ⟨#[97, 110, 110]⟩, .int .i64 0, .int .i64 3] 59)) (Rw.Vs.bt V5.out q1) (Rw.vs_two w11 _ ⟨⟨#[97, 110, 110, 97]⟩, -1, 0⟩ ⟨⟨#[97, 110, 110]⟩, 0, 3⟩) (by decide)
  rw [decide_eq_true rfl] at SF
  have SF := Lib.hid SF
  have Q := Lib.hid q1
  clear q1
  go_wp2_with fail
  refine SF.out.mono ?_
  rintro e w12 ⟨rfl, g0⟩
  have g := Nm.Nb Q.out g0
  have HV12 := Lib.hid (Nm.Nb HV.out g)
  have BX12 := Lib.hid (BX.out.bt g)
  have S1' := Lib.hid (Nm.sbt S1.out g)
  clear S1
  have S1 := S1'
  clear S1'
  have Z1' := Lib.hid (Rw.Zs.bt Z1.out g)
  clear Z1
  have Z1 := Z1'
  clear Z1'
  have S2' := Lib.hid (Nm.sbt S2.out g)
  clear S2
  have S2 := S2'
  clear S2'
  have Z2' := Lib.hid (Rw.Zs.bt Z2.out g)
  clear Z2
  have Z2 := Z2'
  clear Z2'
  have V5' := Lib.hid (Rw.Vs.bt V5.out g)
  clear V5
  have V5 := V5'
  clear V5'
  clear g0 Q SF
  clear HV BX g x0 x1 x2 x3 x4 x5
  have HV := HV12
  have BX := BX12
  clear HV12 BX12
  have x0 : w12.cell? ⟨w1.heap.size, 0, none⟩ = some (.slice (some ad) 6 a) := BX.out.c 0 _ rfl
  have x1 : w12.cell? ⟨w1.heap.size, 1, none⟩ = some (.slice B 1 b) := BX.out.c 1 _ rfl
  have x2 : w12.cell? ⟨w1.heap.size, 2, none⟩ = some (.slice C 1 c) := BX.out.c 2 _ rfl
  have x3 : w12.cell? ⟨w1.heap.size, 3, none⟩ = some (.int .i64 4) := BX.out.c 3 _ rfl
  have x4 : w12.cell? ⟨w1.heap.size, 4, none⟩ = some (.int .i64 2) := BX.out.c 4 _ rfl
  have x5 : w12.cell? ⟨w1.heap.size, 5, none⟩ = some (.int .i64 1) := BX.out.c 5 _ rfl
  go_wp2_with fail
  refine (C9.out _ HV.out).mono ?_
  rintro e w13 ⟨rfl, g⟩
  have HV13 := Lib.hid (Nm.Nb HV.out g)
  have BX13 := Lib.hid (BX.out.bt g)
  have S1' := Lib.hid (Nm.sbt S1.out g)
  clear S1
  have S1 := S1'
  clear S1'
  have Z1' := Lib.hid (Rw.Zs.bt Z1.out g)
  clear Z1
  have Z1 := Z1'
  clear Z1'
  have S2' := Lib.hid (Nm.sbt S2.out g)
  clear S2
  have S2 := S2'
  clear S2'
  have Z2' := Lib.hid (Rw.Zs.bt Z2.out g)
  clear Z2
  have Z2 := Z2'
  clear Z2'
  have V5' := Lib.hid (Rw.Vs.bt V5.out g)
  clear V5
  have V5 := V5'
  clear V5'
  clear C9
  clear HV BX g x0 x1 x2 x3 x4 x5
  have HV := HV13
  have BX := BX13
  clear HV13 BX13
  have x0 : w13.cell? ⟨w1.heap.size, 0, none⟩ = some (.slice (some ad) 6 a) := BX.out.c 0 _ rfl
  have x1 : w13.cell? ⟨w1.heap.size, 1, none⟩ = some (.slice B 1 b) := BX.out.c 1 _ rfl
  have x2 : w13.cell? ⟨w1.heap.size, 2, none⟩ = some (.slice C 1 c) := BX.out.c 2 _ rfl
  have x3 : w13.cell? ⟨w1.heap.size, 3, none⟩ = some (.int .i64 4) := BX.out.c 3 _ rfl
  have x4 : w13.cell? ⟨w1.heap.size, 4, none⟩ = some (.int .i64 2) := BX.out.c 4 _ rfl
  have x5 : w13.cell? ⟨w1.heap.size, 5, none⟩ = some (.int .i64 1) := BX.out.c 5 _ rfl
  go_wp2_with fail
  refine (C10.out _ HV.out).mono ?_
  rintro e w14 ⟨rfl, g⟩
  have HV14 := Lib.hid (Nm.Nb HV.out g)
  have BX14 := Lib.hid (BX.out.bt g)
  have S1' := Lib.hid (Nm.sbt S1.out g)
  clear S1
  have S1 := S1'
  clear S1'
  have Z1' := Lib.hid (Rw.Zs.bt Z1.out g)
  clear Z1
  have Z1 := Z1'
  clear Z1'
  have S2' := Lib.hid (Nm.sbt S2.out g)
  clear S2
  have S2 := S2'
  clear S2'
  have Z2' := Lib.hid (Rw.Zs.bt Z2.out g)
  clear Z2
  have Z2 := Z2'
  clear Z2'
  have V5' := Lib.hid (Rw.Vs.bt V5.out g)
  clear V5
  have V5 := V5'
  clear V5'
  clear C10
  clear HV BX g x0 x1 x2 x3 x4 x5
  have HV := HV14
  have BX := BX14
  clear HV14 BX14
  have x0 : w14.cell? ⟨w1.heap.size, 0, none⟩ = some (.slice (some ad) 6 a) := BX.out.c 0 _ rfl
  have x1 : w14.cell? ⟨w1.heap.size, 1, none⟩ = some (.slice B 1 b) := BX.out.c 1 _ rfl
  have x2 : w14.cell? ⟨w1.heap.size, 2, none⟩ = some (.slice C 1 c) := BX.out.c 2 _ rfl
  have x3 : w14.cell? ⟨w1.heap.size, 3, none⟩ = some (.int .i64 4) := BX.out.c 3 _ rfl
  have x4 : w14.cell? ⟨w1.heap.size, 4, none⟩ = some (.int .i64 2) := BX.out.c 4 _ rfl
  have x5 : w14.cell? ⟨w1.heap.size, 5, none⟩ = some (.int .i64 1) := BX.out.c 5 _ rfl
  go_wp2
  go_ret
  exact ⟨rfl, Nm.Nb HB1.out HV.out⟩
end Go.Proofs.YtkddpealobeleaaGreatDoor

/- Layer 10: what the functions of a table give, as the statements' walks want it. -/
set_option linter.unusedSimpArgs false
set_option linter.unusedVariables false
namespace Go.Proofs.YtkddpealobeleaaGreatDoor
open Go.RowKit Go.Shelf
set_option maxRecDepth 100000
set_option maxHeartbeats 4000000
/-- What Forms gives: an error, forms, costs. -/
def Rw.Gi (t : Rw.TV) (k : Int) (x : ByteArray) (most : Int) (c : Int) (ss : List ByteArray) (ms : List Int) : Prop :=
  (Rw.isL t k x = false ∧ c = 1 ∧ ss = [] ∧ ms = []) ∨ (Rw.isL t k x = true ∧ Rw.Many (Rw.rus k t.R) (Rw.lts k x) most ∧ c = 2 ∧ ss = [] ∧ ms = []) ∨
  (Rw.isL t k x = true ∧ ∃ fs : Rw.Mp, Rw.Are (Rw.rus k t.R) (Rw.lts k x) most fs ∧ fs.length ≤ 1000 ∧ Rw.Sh fs ∧ (∀ y ∈ fs, y.2 ≤ 100000) ∧ c = 0 ∧ ss = fs.map (fun y => Nm.bt y.1) ∧ ms = fs.map (fun y => (y.2 : Int)))
theorem Rw.Strs.nil (w : World) : Strs w w.heap.size none [] := fun k hk => absurd hk (by simp)
theorem Rw.forms_gi (t : Rw.TV) (k : Int) (x : ByteArray) (most : Int) (w : World) (h : t.In w) (hT : Nm.Tb w.heap.size w) (hm : x.size ≤ maxLen) :
    Calls Tryz.prog 14 #[t.val, .int .i64 k, .string x, .int .i64 most] w fun e w' => ∃ (c : Int) (ss : List ByteArray) (ms : List Int) (A : Option Addr) (ca : Nat) (M : Option Addr) (cm n : Nat), e = .returned (.tuple #[.slice A n ca, .slice M n cm, .int .i64 c]) ∧
      Rw.Gi t k x most c ss ms ∧ ss.length = n ∧ ms.length = n ∧ n ≤ 1000 ∧ Strs w' w'.heap.size A ss ∧ Rw.Zs w' w'.heap.size M ms ∧ Below w.heap.size w w' := by
  refine (Rw.formsT_any t k x most w h hT hm).mono ?_
  rintro e w' ⟨hb, ⟨h1, rfl⟩ | ⟨h1, h2, rfl⟩ | ⟨h1, fs, ha, hl, hs, hc, v, g, rfl, ho, hge, hh⟩⟩
  · exact ⟨1, [], [], none, 0, none, 0, 0, rfl, .inl ⟨h1, rfl, rfl, rfl⟩, rfl, rfl, by omega, fun k hk => absurd hk (by simp), fun k hk => absurd hk (by simp), hb⟩
  · exact ⟨2, [], [], none, 0, none, 0, 0, rfl, .inr (.inl ⟨h1, h2, rfl, rfl, rfl⟩), rfl, rfl, by omega, fun k hk => absurd hk (by simp), fun k hk => absurd hk (by simp), hb⟩
  · obtain ⟨A, ca, rfl, s1, _, _⟩ := ho.form
    rw [List.length_map]
    refine ⟨0, _, _, A, ca, some ⟨g, 0, none⟩, fs.length, fs.length, rfl, .inr (.inr ⟨h1, fs, ha, hl, hs, hc, rfl, rfl, rfl⟩), by rw [List.length_map], by rw [List.length_map], hl, s1, Rw.Zs.of (T := 3) ?_, hb⟩
    rw [hh, List.map_map]
    rfl
theorem Rw.Gi.one {t : Rw.TV} {k : Int} {x : ByteArray} {most : Int} {c c' : Int} {ss ss' : List ByteArray} {ms ms' : List Int} (h : Rw.Gi t k x most c ss ms) (h' : Rw.Gi t k x most c' ss' ms') : c = c' ∧ ss = ss' ∧ ms = ms' := by
  rcases h with ⟨a1, rfl, rfl, rfl⟩ | ⟨a1, a2, rfl, rfl, rfl⟩ | ⟨a1, fs, a2, a3, _, _, rfl, rfl, rfl⟩ <;> rcases h' with ⟨b1, rfl, rfl, rfl⟩ | ⟨b1, b2, rfl, rfl, rfl⟩ | ⟨b1, gs, b2, b3, _, _, rfl, rfl, rfl⟩
  · exact ⟨rfl, rfl, rfl⟩
  · rw [a1] at b1; cases b1
  · rw [a1] at b1; cases b1
  · rw [a1] at b1; cases b1
  · exact ⟨rfl, rfl, rfl⟩
  · have := a2.not b2; omega
  · rw [a1] at b1; cases b1
  · have := b2.not a2; omega
  · obtain rfl := a2.one b2
    exact ⟨rfl, rfl, rfl⟩
theorem Rw.vars_gi (t : Rw.TV) (k : Int) (x : ByteArray) (w : World) (h : t.In w) (hT : Nm.Tb w.heap.size w) (hm : x.size ≤ maxLen) :
    Calls Tryz.prog 16 #[t.val, .int .i64 k, .string x] w fun e w' => ∃ (A : Option Addr) (ca n : Nat), e = .returned (.tuple #[.slice A n ca, .int .i64 (Rw.err t k x)]) ∧ (Rw.varsV t k x).length = n ∧ n ≤ 41 ∧ Rw.Vs w' w'.heap.size A (Rw.varsV t k x) ∧ Below w.heap.size w w' := by
  refine (Rw.variants_any t k x w h hT hm).mono ?_
  rintro e w' ⟨u, rfl, ho, hb⟩
  obtain ⟨A, c, rfl, hv, _, _⟩ := ho.vs
  refine ⟨A, c, _, rfl, rfl, ?_, hv, hb⟩
  unfold Rw.varsV
  by_cases hL : Rw.isL t k x = true
  · rw [if_pos hL, List.length_cons]
    have h1 := Rw.endsF_len (Rw.lts k x) k t.E 0
    have h2 := (Rw.fine_of (Rw.isL_word hL).1).ne
    omega
  · rw [if_neg hL]
    simp
/-! ### the folded word -/
theorem Rw.isL_fd {t : Rw.TV} {k : Int} {x : ByteArray} (h : Nm.isW (Nm.sc k) x.data.toList = true) : Rw.isL t k (Rw.fd x) = Rw.isL t k x := by
  unfold Rw.isL Rw.fd
  rw [Nm.bt_list, h, (Nm.fold_word h).1]
theorem Rw.fd_fd (x : ByteArray) : Rw.fd (Rw.fd x) = Rw.fd x := by
  unfold Rw.fd
  rw [Nm.bt_list, Nm.low_twice]
theorem Rw.lts_fd (k : Int) (x : ByteArray) : Rw.lts k (Rw.fd x) = Rw.lts k x := by
  unfold Rw.lts Rw.fd
  rw [Nm.bt_list, Nm.low_twice]
theorem Rw.Gi.fd {t : Rw.TV} {k : Int} {x : ByteArray} {most : Int} {c : Int} {ss : List ByteArray} {ms : List Int} (hw : Nm.isW (Nm.sc k) x.data.toList = true) (h : Rw.Gi t k (Rw.fd x) most c ss ms) : Rw.Gi t k x most c ss ms := by
  unfold Rw.Gi at h ⊢
  rwa [Rw.isL_fd hw, Rw.lts_fd] at h
theorem Rw.varsV_fd {t : Rw.TV} {k : Int} {x : ByteArray} (hw : Nm.isW (Nm.sc k) x.data.toList = true) : Rw.varsV t k (Rw.fd x) = Rw.varsV t k x := by
  unfold Rw.varsV
  rw [Rw.isL_fd hw, Rw.lts_fd, Rw.fd_fd]
theorem Rw.dropV_fd {t : Rw.TV} {k : Int} {x : ByteArray} (hw : Nm.isW (Nm.sc k) x.data.toList = true) : Rw.dropV t k (Rw.fd x) = Rw.dropV t k x := by
  unfold Rw.dropV
  rw [Rw.isL_fd hw, Rw.fd_fd]
theorem Rw.err_fd {t : Rw.TV} {k : Int} {x : ByteArray} (hw : Nm.isW (Nm.sc k) x.data.toList = true) : Rw.err t k (Rw.fd x) = Rw.err t k x := by
  unfold Rw.err
  rw [Rw.isL_fd hw]
theorem Rw.fd_size {k : Int} {x : ByteArray} : (Rw.fd x).size = x.size := by
  unfold Rw.fd
  rw [Lib.size_eq, Nm.bt_list, List.length_map, ← Lib.size_eq]
theorem Rw.sameF_self (ss : List ByteArray) (ms : List Int) (h : ms.length = ss.length) : Rw.sameF ss ms ss ms = true := decide_eq_true ⟨rfl, rfl, h⟩
end Go.Proofs.YtkddpealobeleaaGreatDoor
