/- Layer 9: the head of every statement: the chapter's examples. -/
import Derived.Test.YtcjlnmfbanknhaaDoorNmT
set_option linter.unusedSimpArgs false
set_option linter.unusedVariables false
namespace Go.Proofs.YtcjlnmfbanknhaaDoor
open Go.RowKit Go.Shelf
set_option maxRecDepth 100000
set_option maxHeartbeats 2000000

theorem Nm.strs_new (W : World) (t : TypeId) (l : List ByteArray) : Strs (W.alloc (.cells (l.map Value.string).toArray t)) (W.alloc (.cells (l.map Value.string).toArray t)).heap.size (some ⟨W.heap.size, 0, none⟩) l := fun k hk => by
  refine ⟨_, rfl, by simp, ?_⟩
  have h1 := heap_alloc_new W (.cells (l.map Value.string).toArray t)
  have h2 : (⟨W.heap.size, 0, none⟩ : Addr).add k = ⟨W.heap.size, k, none⟩ := by unfold Addr.add; split <;> simp_all
  rw [h2]
  simp only [World.cell?, h1]
  simp [hk]
theorem Nm.strs_new' (W : World) (t : TypeId) (l : List ByteArray) (N : Nat) (hN : N = W.heap.size) : Strs (W.alloc (.cells (l.map Value.string).toArray t)) (W.alloc (.cells (l.map Value.string).toArray t)).heap.size (some ⟨N, 0, none⟩) l := by
  subst hN
  exact Nm.strs_new W t l
theorem Nm.texts_eq (A : Option Addr) (c : Nat) (B : Option Addr) (d : Nat) (l : List ByteArray) (n : Nat) (hn : l.length = n) (w : World) (ha : Strs w w.heap.size A l) (hb : Strs w w.heap.size B l) (hl : n ≤ maxLen) :
    Calls Tryd.prog 17 #[.slice A n c, .slice B n d] w fun e w' => e = .returned (.bool true) ∧ Below w.heap.size w w' := by
  have := Nm.texts_any A c l B d l w ha hb (by omega) (by omega)
  rw [hn] at this
  simpa using this

theorem Nm.head_any (w : World) (h : Nm.Pa w.heap.size w) : Calls Tryd.prog 4 #[] w fun e w' => e = .returned (.bool true) ∧ Below w.heap.size w w' := by
  have L1 : Hid (∀ v, Below w.heap.size w v → Calls Tryd.prog 7 #[.int .i64 4, .string ⟨#[110, 97, 110, 105, 119, 97]⟩] v fun e w' => ∃ x, e = .returned (.tuple #[x, .int .i64 0]) ∧ OwnS w' v.heap.size x [⟨#[110, 97]⟩, ⟨#[110, 105]⟩, ⟨#[119, 97]⟩] ∧ Below v.heap.size v w') :=
    Lib.hid (fun v hv => Nm.letters_ok 4 ⟨#[110, 97, 110, 105, 119, 97]⟩ v (by decide +kernel) (by decide) (h.bt hv).tb)
  have L2 : Hid (∀ v, Below w.heap.size w v → Calls Tryd.prog 7 #[.int .i64 4, .string ⟨#[107, 105, 110]⟩] v fun e w' => ∃ x, e = .returned (.tuple #[x, .int .i64 0]) ∧ OwnS w' v.heap.size x [⟨#[107, 105]⟩, ⟨#[110]⟩] ∧ Below v.heap.size v w') :=
    Lib.hid (fun v hv => Nm.letters_ok 4 ⟨#[107, 105, 110]⟩ v (by decide +kernel) (by decide) (h.bt hv).tb)
  have L3 : Hid (∀ v, Below w.heap.size w v → Calls Tryd.prog 7 #[.int .i64 2, .string ⟨#[69, 94, 118, 97]⟩] v fun e w' => ∃ x, e = .returned (.tuple #[x, .int .i64 0]) ∧ OwnS w' v.heap.size x [⟨#[69, 94]⟩, ⟨#[118]⟩, ⟨#[97]⟩] ∧ Below v.heap.size v w') :=
    Lib.hid (fun v hv => Nm.letters_ok 2 ⟨#[69, 94, 118, 97]⟩ v (by decide +kernel) (by decide) (h.bt hv).tb)
  have F1 : Hid (∀ v, Below w.heap.size w v → Calls Tryd.prog 9 #[.int .i64 2, .string ⟨#[69, 94, 118, 97]⟩] v fun e w' => e = .returned (.tuple #[.string ⟨#[101, 94, 118, 97]⟩, .int .i64 0]) ∧ Below v.heap.size v w') :=
    Lib.hid (fun v hv => Nm.fold_ok 2 ⟨#[69, 94, 118, 97]⟩ v (by decide +kernel) (by decide) (h.bt hv).tb)
  have L4 : Hid (∀ v, Below w.heap.size w v → Calls Tryd.prog 7 #[.int .i64 4, .string ⟨#[115, 116, 97]⟩] v fun e w' => e = .returned (.tuple #[.slice none 0 0, .int .i64 1]) ∧ Below v.heap.size v w') :=
    Lib.hid (fun v hv => Nm.letters_bad 4 ⟨#[115, 116, 97]⟩ v (by decide +kernel) (by decide) (h.bt hv).tb)
  have P1 : Hid (∀ v, Below w.heap.size w v → Calls Tryd.prog 13 #[.string ⟨#[99, 97, 115, 101, 100, 58, 32, 65, 110, 110, 97, 32, 32, 77, 97, 114, 105, 97, 32]⟩] v fun e w' => ∃ x, e = .returned (.tuple #[.agg #[.int .i64 2, x], .int .i64 0, .int .i64 0]) ∧ OwnS w' v.heap.size x [⟨#[65, 110, 110, 97]⟩, ⟨#[77, 97, 114, 105, 97]⟩] ∧ Below v.heap.size v w') :=
    Lib.hid (fun v hv => by
      have := Nm.parse_any ⟨#[99, 97, 115, 101, 100, 58, 32, 65, 110, 110, 97, 32, 32, 77, 97, 114, 105, 97, 32]⟩ v (by decide) (h.bt hv)
      rwa [show Nm.parse (⟨#[99, 97, 115, 101, 100, 58, 32, 65, 110, 110, 97, 32, 32, 77, 97, 114, 105, 97, 32]⟩ : ByteArray).data.toList = ⟨2, [[65, 110, 110, 97], [77, 97, 114, 105, 97]], 0, 0⟩ from by decide +kernel] at this)
  have P2 : Hid (∀ v, Below w.heap.size w v → Calls Tryd.prog 13 #[.string ⟨#[97, 98, 106, 97, 100, 58, 98, 110, 32, 97]⟩] v fun e w' => ∃ x, e = .returned (.tuple #[.agg #[.int .i64 0, x], .int .i64 3, .int .i64 9]) ∧ OwnS w' v.heap.size x [] ∧ Below v.heap.size v w') :=
    Lib.hid (fun v hv => by
      have := Nm.parse_any ⟨#[97, 98, 106, 97, 100, 58, 98, 110, 32, 97]⟩ v (by decide) (h.bt hv)
      rwa [show Nm.parse (⟨#[97, 98, 106, 97, 100, 58, 98, 110, 32, 97]⟩ : ByteArray).data.toList = ⟨0, [], 3, 9⟩ from by decide +kernel] at this)
  have P3 : Hid (∀ v, Below w.heap.size w v → Calls Tryd.prog 13 #[.string ⟨#[112, 108, 97, 105, 110, 58, 32]⟩] v fun e w' => ∃ x, e = .returned (.tuple #[.agg #[.int .i64 0, x], .int .i64 6, .int .i64 7]) ∧ OwnS w' v.heap.size x [] ∧ Below v.heap.size v w') :=
    Lib.hid (fun v hv => by
      have := Nm.parse_any ⟨#[112, 108, 97, 105, 110, 58, 32]⟩ v (by decide) (h.bt hv)
      rwa [show Nm.parse (⟨#[112, 108, 97, 105, 110, 58, 32]⟩ : ByteArray).data.toList = ⟨0, [], 6, 7⟩ from by decide +kernel] at this)
  have T1 : Hid (∀ v A c, Below w.heap.size w v → Strs v v.heap.size A [⟨#[65, 110, 110, 97]⟩, ⟨#[77, 97, 114, 105, 97]⟩] → 2 ≤ c → c ≤ maxLen → Calls Tryd.prog 11 #[.agg #[.int .i64 2, .slice A 2 c]] v fun e w' => e = .returned (.tuple #[.string ⟨#[99, 97, 115, 101, 100, 58, 65, 110, 110, 97, 32, 77, 97, 114, 105, 97]⟩, .int .i64 0]) ∧ Below v.heap.size v w') :=
    Lib.hid (fun v A c hv hs hc hc2 => Nm.text_ok 2 A c [⟨#[65, 110, 110, 97]⟩, ⟨#[77, 97, 114, 105, 97]⟩] v (by decide +kernel) hs hc hc2 (by decide) (h.bt hv).tb)
  clear h
  go_enter Tryd.func4, Tryd.ntmps4
  go_wp2_with fail
  refine (L1.out w (Below.refl _ _)).mono ?_
  rintro e w1 ⟨v1, rfl, o1, g1⟩
  obtain ⟨A1, c1, rfl, s1, _, _⟩ := o1.form
  have hb1 := Lib.hid g1
  have S1 := Lib.hid s1
  clear o1 s1 g1 L1
  go_wp2_with fail
  refine (L2.out w1 hb1.out).mono ?_
  rintro e w2 ⟨v2, rfl, o2, g2⟩
  obtain ⟨A2, c2, rfl, s2, _, _⟩ := o2.form
  have hb2 := Lib.hid (Nm.Nb hb1.out g2)
  have S12 := Lib.hid (Nm.sbt S1.out g2)
  have S2 := Lib.hid s2
  clear o2 s2 g2 L2 S1
  go_wp2_with fail
  refine (L3.out w2 hb2.out).mono ?_
  rintro e w3 ⟨v3, rfl, o3, g3⟩
  obtain ⟨A3, c3, rfl, s3, _, _⟩ := o3.form
  have hb3 := Lib.hid (Nm.Nb hb2.out g3)
  have S13 := Lib.hid (Nm.sbt S12.out g3)
  have S23 := Lib.hid (Nm.sbt S2.out g3)
  have S3 := Lib.hid s3
  clear o3 s3 g3 L3 S12 S2
  go_wp2_with fail
  refine (F1.out w3 hb3.out).mono ?_
  rintro e w4 ⟨rfl, g4⟩
  have hb4 := Lib.hid (Nm.Nb hb3.out g4)
  have S14 := Lib.hid (Nm.sbt S13.out g4)
  have S24 := Lib.hid (Nm.sbt S23.out g4)
  have S34 := Lib.hid (Nm.sbt S3.out g4)
  clear g4 F1 S13 S23 S3
  go_wp2_with fail
  refine (L4.out w4 hb4.out).mono ?_
  rintro e w5 ⟨rfl, g5⟩
  have hb5 := Lib.hid (Nm.Nb hb4.out g5)
  have S15 := Lib.hid (Nm.sbt S14.out g5)
  have S25 := Lib.hid (Nm.sbt S24.out g5)
  have S35 := Lib.hid (Nm.sbt S34.out g5)
  clear g5 L4 S14 S24 S34
  go_wp2_with fail
  refine (P1.out w5 hb5.out).mono ?_
  rintro e w6 ⟨v6, rfl, o6, g6⟩
  obtain ⟨A6, c6, rfl, s6, k6, m6⟩ := o6.form
  have hb6 := Lib.hid (Nm.Nb hb5.out g6)
  have S16 := Lib.hid (Nm.sbt S15.out g6)
  have S26 := Lib.hid (Nm.sbt S25.out g6)
  have S36 := Lib.hid (Nm.sbt S35.out g6)
  have S6 := Lib.hid s6
  have K6 := Lib.hid (And.intro k6 m6)
  clear o6 s6 g6 P1 S15 S25 S35 k6 m6
  have hbx : Hid (Below w6.heap.size w6 (w6.alloc (.cells #[.int .i64 2, .slice A6 2 c6] 24))) := Lib.hid (Nm.al _ _)
  have hb6' := Lib.hid (Nm.Nb hb6.out hbx.out)
  go_wp2_with fail
  refine (P2.out _ hb6'.out).mono ?_
  rintro e w7 ⟨v7, rfl, o7, g7⟩
  obtain ⟨A7, c7, rfl, _, _, _⟩ := o7.form
  have hq7 := hbx.out.trans (g7.mono hbx.out.size)
  have hb7 := Lib.hid (Nm.Nb hb6.out hq7)
  have S17 := Lib.hid (Nm.sbt S16.out hq7)
  have S27 := Lib.hid (Nm.sbt S26.out hq7)
  have S37 := Lib.hid (Nm.sbt S36.out hq7)
  have S67 := Lib.hid (Nm.sbt S6.out hq7)
  have z7 := Lib.hid ((g7.block w6.heap.size (by simp)).trans (heap_alloc_new w6 (.cells #[.int .i64 2, .slice A6 2 c6] 24)))
  clear o7 g7 hq7 hbx hb6' P2 S16 S26 S36 S6
  have hbx : Hid (Below w7.heap.size w7 (w7.alloc (.cells #[.int .i64 0, .slice A7 0 c7] 24))) := Lib.hid (Nm.al _ _)
  have hb7' := Lib.hid (Nm.Nb hb7.out hbx.out)
  go_wp2_with fail
  refine (P3.out _ hb7'.out).mono ?_
  rintro e w8 ⟨v8, rfl, o8, g8⟩
  obtain ⟨A8, c8, rfl, _, _, _⟩ := o8.form
  have hq8 := (hbx.out.trans (g8.mono hbx.out.size))
  have hq9 := hq8.trans ((Nm.al w8 (.cells #[.int .i64 0, .slice A8 0 c8] 24)).mono hq8.size)
  have hq10 := hq9.trans ((Nm.al _ (.cells #[.string ⟨#[110, 97]⟩, .string ⟨#[110, 105]⟩, .string ⟨#[119, 97]⟩] 9)).mono hq9.size)
  have hb8 := Lib.hid (Nm.Nb hb7.out hq10)
  have TX1 := Lib.hid (Nm.texts_eq A1 c1 (some ⟨w8.heap.size + 1, 0, none⟩) 3 [⟨#[110, 97]⟩, ⟨#[110, 105]⟩, ⟨#[119, 97]⟩] 3 rfl _ (Nm.sbt S17.out hq10) (Nm.strs_new' (w8.alloc (.cells #[.int .i64 0, .slice A8 0 c8] 24)) 9 _ _ (by simp)) (by unfold maxLen; omega))
  have S28 := Lib.hid (Nm.sbt S27.out hq10)
  have S38 := Lib.hid (Nm.sbt S37.out hq10)
  have S68 := Lib.hid (Nm.sbt S67.out hq10)
  have z8 := Lib.hid ((hq10.block w6.heap.size (Array.getElem?_eq_some_iff.1 z7.out).1).trans z7.out)
  clear o8 g8 hq8 hq9 hq10 hbx hb7' P3 S17 S27 S37 S67
  go_wp2_with fail
  refine TX1.out.mono ?_
  rintro e w9 ⟨rfl, g9⟩
  have hb9 := Lib.hid (Nm.Nb hb8.out g9)
  have q9 := g9.trans ((Nm.al w9 (.cells #[.string ⟨#[107, 105]⟩, .string ⟨#[110]⟩] 9)).mono g9.size)
  have TX2 := Lib.hid (Nm.texts_eq A2 c2 (some ⟨w9.heap.size, 0, none⟩) 2 [⟨#[107, 105]⟩, ⟨#[110]⟩] 2 rfl _ (Nm.sbt S28.out q9) (Nm.strs_new w9 9 _) (by unfold maxLen; omega))
  have hb10 := Lib.hid (Nm.Nb hb8.out q9)
  have S39 := Lib.hid (Nm.sbt S38.out q9)
  have S69 := Lib.hid (Nm.sbt S68.out q9)
  have z9 := Lib.hid ((q9.block w6.heap.size (Array.getElem?_eq_some_iff.1 z8.out).1).trans z8.out)
  clear g9 q9 TX1 S28 S38 S68
  go_wp2_with fail
  refine TX2.out.mono ?_
  rintro e w10 ⟨rfl, g10⟩
  have q10 := g10.trans ((Nm.al w10 (.cells #[.string ⟨#[69, 94]⟩, .string ⟨#[118]⟩, .string ⟨#[97]⟩] 9)).mono g10.size)
  have TX3 := Lib.hid (Nm.texts_eq A3 c3 (some ⟨w10.heap.size, 0, none⟩) 3 [⟨#[69, 94]⟩, ⟨#[118]⟩, ⟨#[97]⟩] 3 rfl _ (Nm.sbt S39.out q10) (Nm.strs_new w10 9 _) (by unfold maxLen; omega))
  have hb11 := Lib.hid (Nm.Nb hb10.out q10)
  have S610 := Lib.hid (Nm.sbt S69.out q10)
  have z10 := Lib.hid ((q10.block w6.heap.size (Array.getElem?_eq_some_iff.1 z9.out).1).trans z9.out)
  clear g10 q10 TX2 S39 S69
  go_wp2_with fail
  refine TX3.out.mono ?_
  rintro e w11 ⟨rfl, g11⟩
  have hb12 := Lib.hid (Nm.Nb hb11.out g11)
  have S611 := Lib.hid (Nm.sbt S610.out g11)
  have z11 := ((g11.block w6.heap.size (Array.getElem?_eq_some_iff.1 z10.out).1).trans z10.out)
  have d0 : w11.cell? ⟨w6.heap.size, 0, none⟩ = some (.int .i64 2) := by simp [World.cell?, z11]
  have d1 : w11.cell? ⟨w6.heap.size, 1, none⟩ = some (.slice A6 2 c6) := by simp [World.cell?, z11]
  clear g11 TX3 S610 z11
  go_wp2_with fail
  refine (T1.out w11 A6 c6 hb12.out S611.out K6.out.1 K6.out.2).mono ?_
  rintro e w12 ⟨rfl, g12⟩
  have hb13 := Lib.hid (Nm.Nb hb12.out g12)
  clear g12
  go_wp2
  go_ret
  exact ⟨rfl, hb13.out⟩
end Go.Proofs.YtcjlnmfbanknhaaDoor
