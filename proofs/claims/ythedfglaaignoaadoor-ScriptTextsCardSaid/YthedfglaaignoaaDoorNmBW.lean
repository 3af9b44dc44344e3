/- ScriptBlanks: what a further blank changes, and the walk. -/
import Derived.Test.YthedfglaaignoaaDoorNmU
set_option linter.unusedSimpArgs false
set_option linter.unusedVariables false
namespace Go.Proofs.YthedfglaaignoaaDoor
open Go.RowKit Go.Shelf
set_option maxRecDepth 100000
set_option maxHeartbeats 1000000
/-- What stands below a fresh block or a draw. -/
theorem Nm.al_size {a w : World} (h : Below a.heap.size a w) (o : Obj) : Below a.heap.size a (w.alloc o) := h.alloc h.size o
macro "nm_below " h:term : tactic => `(tactic| repeat (first | (with_reducible exact $h) | (with_reducible refine Below.drew ?_) | (with_reducible refine Nm.al_size ?_ _)))
theorem Nm.parse_cases (t : Nm.T) : ((Nm.parse t).e = 0 ∧ (Nm.parse t).a = 0 ∧ ∃ s, (Nm.parse t).s = s ∧ 1 ≤ s ∧ s ≤ 4 ∧ Nm.okN s (Nm.parse t).ws = true ∧ Nm.jl (Nm.parse t).ws + (Nm.title s).length ≤ t.length + 1) ∨ ((Nm.parse t).e ≠ 0 ∧ (Nm.parse t).s = 0 ∧ (Nm.parse t).ws = [] ∧ -1 ≤ (Nm.parse t).a ∧ (Nm.parse t).a ≤ (t.length : Int)) := by
  by_cases hl : 20000 < t.length
  · rw [Nm.parse_long hl]
    exact .inr ⟨by decide, rfl, rfl, by simp, by simp only; omega⟩
  · cases hf : Nm.find t with
    | none =>
      rw [Nm.parse_none (by omega) hf]
      exact .inr ⟨by decide, rfl, rfl, by simp, by simp only; omega⟩
    | some s =>
      obtain ⟨h1, h4, r, rfl⟩ := Nm.find_some hf
      rw [Nm.parse_title h1 h4 (by omega)]
      by_cases he : (Nm.scan s r [] [] 0).2.1 = 0
      · rw [if_pos he]
        have hv := Nm.scan_valid s r [] [] 0 [] (by simp) (by simp) rfl rfl rfl (by omega) (fun _ => rfl) (fun h => absurd rfl h) he
        have hj := Nm.scan_len s r [] [] 0
        refine .inl ⟨rfl, rfl, s, rfl, h1, h4, hv, ?_⟩
        rw [List.length_append]
        simp only [Nm.jl, List.length_nil] at hj ⊢
        omega
      · rw [if_neg he]
        exact .inr ⟨he, rfl, rfl, by simp only; omega, by simp only; omega⟩
theorem Nm.title_blank {s i : Nat} (h1 : 1 ≤ s) (h4 : s ≤ 4) : (Nm.title s)[i]? ≠ some 32 := by
  intro h
  have := List.mem_of_getElem? h
  have hs : s = 1 ∨ s = 2 ∨ s = 3 ∨ s = 4 := by omega
  rcases hs with rfl | rfl | rfl | rfl <;> revert this <;> decide
theorem Nm.edge_at {t : Nm.T} {k : Nat} (h : Nm.edge (t.drop k) = true) (hk : k < t.length) : t[k]? = some 32 := by
  rw [List.drop_eq_getElem_cons hk] at h
  rw [List.getElem?_eq_getElem hk]
  have : t[k] = 32 := by simpa [Nm.edge] using h
  rw [this]
theorem Nm.parse_blank {t : Nm.T} {k : Nat} (hl : t.length ≤ 2000) (hk : k ≤ t.length) (hm : Nm.edge (t.drop k) = true) (he : (Nm.parse t).e ≠ 5) :
    (Nm.parse (t.take k ++ 32 :: t.drop k)).e = (Nm.parse t).e ∧ (Nm.parse (t.take k ++ 32 :: t.drop k)).ws = (Nm.parse t).ws ∧ (Nm.parse (t.take k ++ 32 :: t.drop k)).s = (Nm.parse t).s := by
  cases hf : Nm.find t with
  | none =>
    rw [Nm.parse_none (by omega) hf] at he
    exact absurd rfl he
  | some s =>
    obtain ⟨h1, h4, r, rfl⟩ := Nm.find_some hf
    have hge : (Nm.title s).length ≤ k := by
      by_cases hlt : k < (Nm.title s).length
      · have := Nm.edge_at hm (by rw [List.length_append]; omega)
        rw [List.getElem?_append_left hlt] at this
        exact absurd this (Nm.title_blank h1 h4)
      · omega
    obtain ⟨j, rfl⟩ : ∃ j, k = (Nm.title s).length + j := ⟨k - (Nm.title s).length, by omega⟩
    rw [List.length_append] at hk hl
    rw [List.take_length_add_append, List.append_assoc, List.drop_length_add_append, Nm.parse_title h1 h4 (by simp only [List.length_append, List.length_cons, List.length_take, List.length_drop]; omega), Nm.parse_title h1 h4 (by simp only [List.length_append, List.length_cons, List.length_take, List.length_drop]; omega)]
    rw [List.drop_length_add_append] at hm
    have hs := Nm.scan_add s (r.take j) (r.drop j) hm [] [] 0
    rw [List.take_append_drop] at hs
    by_cases h0 : (Nm.scan s r [] [] 0).2.1 = 0
    · rw [if_pos h0, if_pos (by rw [← hs.2]; exact h0)]
      exact ⟨rfl, hs.1.symm, rfl⟩
    · rw [if_neg h0, if_neg (by rw [← hs.2]; exact h0)]
      exact ⟨hs.2.symm, rfl, rfl⟩
theorem Nm.same_true (k : Int) (A : Option Addr) (c : Nat) (B : Option Addr) (d : Nat) (ss : List ByteArray) (n : Nat) (hn : ss.length = n) (hl : n ≤ 20) (w : World) (ha : Strs w w.heap.size A ss) (hb : Strs w w.heap.size B ss) :
    Calls Tryd.prog 25 #[.agg #[.int .i64 k, .slice A n c], .agg #[.int .i64 k, .slice B n d]] w fun e w' => e = .returned (.bool true) ∧ Below w.heap.size w w' := by
  have := Nm.same_any k A c ss k B d ss w ha hb (by unfold maxLen; omega) (by unfold maxLen; omega)
  rw [hn] at this
  simpa using this
theorem Nm.parse_few (t : Nm.T) : (Nm.parse t).ws.length ≤ 6 := by
  rcases Nm.parse_cases t with ⟨_, _, s, _, _, _, h, _⟩ | ⟨_, _, h, _⟩
  · exact (Nm.okN_iff h).2.2
  · rw [h]; simp
theorem Nm.cell_h {V : World} {b : Nat} {c : Array Value} {T : TypeId} {fr : Nat × Nat} (h : V.heap[b]? = some (.cells c T fr)) (i : Nat) : V.cell? ⟨b, i, none⟩ = c[i]? := by simp [World.cell?, h]
theorem Nm.undrew {a w : World} (h : Below a.drew.heap.size a.drew w) : Below a.heap.size a w := ⟨h.os, h.tape, h.output, h.size, h.block⟩
theorem Nm.blank_facts {w w2 V : World} {ps : Int} {A : Option Addr} {m c : Nat} {ss : List ByteArray}
    (hb : Below w.heap.size w (w2.alloc (.cells #[.int .i64 ps, .slice A m c] 24)))
    (hs : Strs (w2.alloc (.cells #[.int .i64 ps, .slice A m c] 24)) (w2.alloc (.cells #[.int .i64 ps, .slice A m c] 24)).heap.size A ss)
    (hV : Below (w2.alloc (.cells #[.int .i64 ps, .slice A m c] 24)).heap.size (w2.alloc (.cells #[.int .i64 ps, .slice A m c] 24)) V) :
    V.cell? ⟨w2.heap.size, 0, none⟩ = some (.int .i64 ps) ∧ V.cell? ⟨w2.heap.size, 1, none⟩ = some (.slice A m c) ∧ Below w.heap.size w V ∧ Strs V V.heap.size A ss := by
  have z := (hV.block w2.heap.size (by simp)).trans (heap_alloc_new w2 _)
  exact ⟨by simp [World.cell?, z], by simp [World.cell?, z], Nm.Nb hb hV, Nm.sbt hs hV⟩
theorem Nm.blanks_walk (a : ByteArray) (i : Int) (w : World) (hp : Nm.Pa w.heap.size w) (ha : a.size ≤ maxLen) (wi : (Go.Lit.int .u16 i).wf = true) :
    Calls Tryd.prog 8 #[.string a, .int .u16 i] w fun e w' => e = .returned (.bool true) ∧ Below w.heap.size w w' := by
  have HD : Hid (Calls Tryd.prog 11 #[] w fun e w' => e = .returned (.bool true) ∧ Below w.heap.size w w') := Lib.hid (Nm.head_any w hp)
  by_cases hl : 2000 < a.size
  · have hd : decide ((2000 : Int) < (a.size : Int)) = true := decide_eq_true (by omega)
    clear hp ha hl
    go_enter Tryd.func8, Tryd.ntmps8
    go_wp2_with fail
    refine HD.out.mono ?_
    rintro e w1 ⟨rfl, g1⟩
    go_wp2
    go_ret
    exact ⟨rfl, g1⟩
  · have hd : decide ((2000 : Int) < (a.size : Int)) = false := decide_eq_false (by omega)
    have hlen := Lib.size_eq a
    obtain ⟨r, rfl, hr⟩ : ∃ r : Nat, i = (r : Int) ∧ r < 65536 := by
      simp [Lit.wf, IntKind.min, IntKind.max, IntKind.bits, IntKind.signed] at wi
      exact ⟨i.toNat, by omega, by omega⟩
    have hmod : r % (a.size + 1) < a.size + 1 := Nat.mod_lt _ (by omega)
    have hr1 : Int.tmod (r : Int) ((a.size : Int) + 1) = ((r % (a.size + 1) : Nat) : Int) := rfl
    have hr2 : (r : Int) % ((a.size : Int) + 1) = ((r % (a.size + 1) : Nat) : Int) := (Int.natCast_emod r (a.size + 1)).symm
    have hz1 : ((a.size : Int) + 1 == 0) = false := by simp; omega
    have hz2 : ¬ ((a.size : Int) + 1 = 0) := by omega
    have P1 := Lib.hid (fun v (hv : Below w.heap.size w v) => Nm.parse_any a v ha (hp.bt hv))
    have hbk : ∀ k, k ≤ a.size → (a.extract 0 k ++ ⟨#[32]⟩ ++ a.extract k a.size).data.toList = a.data.toList.take k ++ 32 :: a.data.toList.drop k := fun k hk => by
      simp [Lib.extract_data]
      rw [List.take_of_length_le (by rw [List.length_drop]; omega)]
    have P3 : Hid (∀ k, k ≤ a.size → Nm.edge (a.data.toList.drop k) = true → (Nm.parse a.data.toList).e ≠ 5 → ∃ q4, ∀ v, Below w.heap.size w v → Calls Tryd.prog 20 #[.string (a.extract 0 k ++ ⟨#[32]⟩ ++ a.extract k a.size)] v (Nm.PPost v ⟨(Nm.parse a.data.toList).s, (Nm.parse a.data.toList).ws, (Nm.parse a.data.toList).e, q4⟩)) := Lib.hid (fun k hk he h5 => by
      obtain ⟨h1, h2, h3⟩ := Nm.parse_blank (t := a.data.toList) (k := k) (by omega) (by omega) he h5
      rw [← hbk k hk] at h1 h2 h3
      refine ⟨(Nm.parse (a.extract 0 k ++ ⟨#[32]⟩ ++ a.extract k a.size).data.toList).a, fun v hv => ?_⟩
      have := Nm.parse_any (a.extract 0 k ++ ⟨#[32]⟩ ++ a.extract k a.size) v (by simp only [ByteArray.size_append, ByteArray.size_extract]; have : (⟨#[32]⟩ : ByteArray).size = 1 := rfl; unfold maxLen; omega) (hp.bt hv)
      rw [← h1, ← h2, ← h3]
      exact this)
    have hfew := Nm.parse_few a.data.toList
    obtain ⟨p, hpp⟩ : ∃ p, Nm.parse a.data.toList = p := ⟨_, rfl⟩
    rw [hpp] at P1 P3 hfew
    obtain ⟨ps, pw, pe, pa⟩ := p
    unfold Nm.PPost at P1 P3
    simp only at P1 P3 hfew
    obtain ⟨ss, hss⟩ : ∃ ss, pw.map Nm.bt = ss := ⟨_, rfl⟩
    have hfew2 : ss.length ≤ 6 := by rw [← hss, List.length_map]; exact hfew
    rw [hss] at P1 P3
    obtain ⟨m, hm⟩ : ∃ m, ss.length = m := ⟨_, rfl⟩
    rw [hm] at hfew2
    have HM := Lib.hid hm
    have HED : Hid (∀ k (hk : k < a.size), (a[k]'hk) = 32 → Nm.edge (a.data.toList.drop k) = true) := Lib.hid (fun k hk h => by
      rw [List.drop_eq_getElem_cons (by omega)]
      have h2 := Lib.data_getElem? a k hk
      rw [List.getElem?_eq_getElem (by omega), h] at h2
      rw [Option.some.inj h2]
      rfl)
    have HE2 : Hid (Nm.edge (a.data.toList.drop a.size) = true) := Lib.hid (by rw [List.drop_eq_nil_of_le (by omega)]; rfl)
    generalize r % (a.size + 1) = i0 at *
    have HR := Lib.hid (And.intro hr hr1)
    clear hpp hss hm hfew hbk hp ha wi hr hlen hr1
    go_enter Tryd.func8, Tryd.ntmps8
    go_wp2_with fail
    refine HD.out.mono ?_
    rintro e w1 ⟨rfl, g1⟩
    have hb1 := Lib.hid g1
    clear g1
    go_wp2
    clear hr2 hz1 hz2
    go_loop [6] (fun s6 => ∃ j : Nat, j ≤ a.size ∧ s6 = .int .i64 (j : Int)) (fun s6 => a.size - (intOf s6).toNat)
    case atStart => exact ⟨i0, by omega, by rw [show wrap64 (r : Int) = (r : Int) from by (have := HR.out.1; unfold wrap64; omega), HR.out.2]⟩
    case round =>
      obtain ⟨j, hj, rfl⟩ := hrel
      by_cases hlt : j < a.size ∧ ∀ h : j < a.size, (a[j]'h) ≠ 32
      · obtain ⟨h1, h2⟩ := hlt
        have h2 := h2 h1
        have hit' : (j : Int) < (a.size : Int) := by omega
        have hi00 : (0 : Int) ≤ (j : Int) := by omega
        obtain ⟨x, hx⟩ : ∃ x : UInt8, a[j]'h1 = x := ⟨_, rfl⟩
        rw [hx] at h2
        have hne : ((x.toNat : Int) == 32) = false := by
          have : x.toNat ≠ 32 := fun e => h2 (UInt8.toNat_inj.1 e)
          simp; omega
        have hne2 : ¬ ((x.toNat : Int) = 32) := by simpa using hne
        go_wp2
        exact ⟨⟨j + 1, by omega, by go_num⟩, by simp [intOf]; omega⟩
      · have hedge : Nm.edge (a.data.toList.drop j) = true := by
          by_cases h1 : j < a.size
          · refine HED.out j h1 ?_
            by_cases h2 : (a[j]'h1) = 32
            · exact h2
            · exact absurd ⟨h1, fun _ => h2⟩ hlt
          · obtain rfl : j = a.size := by omega
            exact HE2.out
        have P4 := Lib.hid (P3.out j hj hedge)
        clear P3 hedge HED HE2
        have hj0 : (0 : Int) ≤ (j : Int) := by omega
        have hj1 : (j : Int) ≤ (a.size : Int) := by omega
        by_cases h1 : j < a.size
        · have h2 : (a[j]'h1) = 32 := by
            by_cases h2 : (a[j]'h1) = 32
            · exact h2
            · exact absurd ⟨h1, fun _ => h2⟩ hlt
          have hit' : (j : Int) < (a.size : Int) := by omega
          clear hlt
          go_wp2_with fail
          refine (P1.out w1 hb1.out).mono ?_
          rintro e w2 ⟨v, rfl, o2, g2⟩
          obtain ⟨A, c, rfl, s2, _, _⟩ := o2.form
          rw [HM.out]
          have hx2 := Nm.al w2 (.cells #[.int .i64 (ps : Int), .slice A m c] 24)
          have hb2 := Lib.hid (Nm.Nb (Nm.Nb hb1.out g2) hx2)
          have S2 := Lib.hid (Nm.sbt s2 hx2)
          clear o2 g2 hx2 s2 P1
          by_cases h5 : pe = 5
          · subst h5
            clear P4
            go_wp2
            go_ret
            exact ⟨rfl, hb2.out⟩
          · have h5' : (pe == 5) = false := by simpa using h5
            obtain ⟨q4, P5⟩ := P4.out h5
            have P6 := Lib.hid P5
            have n1 : ¬ 9223372036854775807 < j + 1 := by omega
            have n2 : ¬ 9223372036854775807 < min j a.size + 1 := by omega
            have n3 : ¬ 9223372036854775807 < j + 1 + (a.size - j) := by omega
            have n4 : ¬ 9223372036854775807 < min j a.size + 1 + (a.size - j) := by omega
            have q2 : decide ((a.size : Int) < (j : Int)) = false := decide_eq_false (by omega)
            have q3 : decide (a.size < j) = false := decide_eq_false (by omega)
            clear P5 P4
            go_wp2_with fail
            go_region_held3 (fun _ => True) (trivial) (first
              | (go_at_call 20
                 (with_reducible refine (P6.out _ (by nm_below hb2.out)).mono ?_)
                 rintro e w4 ⟨v4, rfl, o4, g4⟩
                 obtain ⟨A4, c4, rfl, s4, _, _⟩ := o4.form
                 rw [HM.out]
                 (try (
                   have z4 := (g4.block (w2.alloc (.cells #[.int .i64 (ps : Int), .slice A m c] 24)).heap.size (by simp)).trans (heap_alloc_new (w2.alloc (.cells #[.int .i64 (ps : Int), .slice A m c] 24)) (.cells #[.int .i64 0, .slice none 0 0] 24))
                   rw [show (w2.alloc (.cells #[.int .i64 (ps : Int), .slice A m c] 24)).heap.size = w2.heap.size + 1 from by simp] at z4
                   obtain ⟨z40, z41, z42, z43, z44, z45⟩ := Nm.box2 z4 (.int .i64 (ps : Int)))))
              | fail)
            · have g5 := Nm.undrew g4
              have hV := Nm.Nb g5 (Nm.al w4 (.cells #[.int .i64 (ps : Int), .slice A4 m c4] 24))
              obtain ⟨f0, f1, f2, f3⟩ := Nm.blank_facts hb2.out S2.out hV
              have hS4 := Nm.sbt s4 (Nm.al w4 (.cells #[.int .i64 (ps : Int), .slice A4 m c4] 24))
              have zn := heap_alloc_new w4 (.cells #[.int .i64 (ps : Int), .slice A4 m c4] 24)
              have e0 : (w4.alloc (.cells #[.int .i64 (ps : Int), .slice A4 m c4] 24)).cell? ⟨w4.heap.size, 0, none⟩ = some (.int .i64 (ps : Int)) := Nm.cell_h zn 0
              have e1 : (w4.alloc (.cells #[.int .i64 (ps : Int), .slice A4 m c4] 24)).cell? ⟨w4.heap.size, 1, none⟩ = some (.slice A4 m c4) := Nm.cell_h zn 1
              clear zn hV g5 o4 s4 g4
              generalize hVV : w4.alloc (.cells #[.int .i64 (ps : Int), .slice A4 m c4] 24) = V at *
              have SM := Lib.hid (Nm.same_true (ps : Int) A c A4 c4 ss m HM.out (by omega) V f3 hS4)
              have HB := Lib.hid f2
              clear hVV f3 hS4 f2
              go_wp2_with fail
              refine SM.out.mono ?_
              rintro e w5 ⟨rfl, g5⟩
              have hb5 := Lib.hid (Nm.Nb HB.out g5)
              clear g5
              go_wp2
              go_ret
              exact ⟨rfl, hb5.out⟩
            · have g5 := Nm.Nb (Nm.al (w2.alloc (.cells #[.int .i64 (ps : Int), .slice A m c] 24)) (.cells #[.int .i64 0, .slice none 0 0] 24)) (Nm.undrew g4)
              have hk : ∀ i u W, Below (w2.alloc (.cells #[.int .i64 (ps : Int), .slice A m c] 24)).heap.size (w2.alloc (.cells #[.int .i64 (ps : Int), .slice A m c] 24)) W → Below (w2.alloc (.cells #[.int .i64 (ps : Int), .slice A m c] 24)).heap.size (w2.alloc (.cells #[.int .i64 (ps : Int), .slice A m c] 24)) (W.setCell ⟨w2.heap.size + 1, i, none⟩ u) := fun i u W h => h.setCell (by simp) u
              have hV := hk 1 (.slice A4 m c4) _ (hk 0 (.int .i64 (ps : Int)) _ g5)
              obtain ⟨f0, f1, f2, f3⟩ := Nm.blank_facts hb2.out S2.out hV
              have hS4 : Strs ((w4.setCell ⟨w2.heap.size + 1, 0, none⟩ (.int .i64 (ps : Int))).setCell ⟨w2.heap.size + 1, 1, none⟩ (.slice A4 m c4)) ((w4.setCell ⟨w2.heap.size + 1, 0, none⟩ (.int .i64 (ps : Int))).setCell ⟨w2.heap.size + 1, 1, none⟩ (.slice A4 m c4)).heap.size A4 ss := (OwnS.form (Nm.own_set (b := w2.heap.size + 1) (Nm.own_set (b := w2.heap.size + 1) o4 0 (.int .i64 (ps : Int)) (by simp)) 1 (.slice A4 m c4) (by simp))).elim fun _ h => h.elim fun _ h => by
                rw [HM.out] at h
                obtain ⟨h1, h2, _⟩ := h
                cases h1
                exact h2
              obtain ⟨e0, e1⟩ := Nm.put2 z4 (.int .i64 (ps : Int)) (.slice A4 m c4)
              clear z4 z40 z41 z42 z43 z44 z45 hV hk g5 o4 s4 g4
              generalize hVV : (w4.setCell ⟨w2.heap.size + 1, 0, none⟩ (.int .i64 (ps : Int))).setCell ⟨w2.heap.size + 1, 1, none⟩ (.slice A4 m c4) = V at *
              have SM := Lib.hid (Nm.same_true (ps : Int) A c A4 c4 ss m HM.out (by omega) V f3 hS4)
              have HB := Lib.hid f2
              clear hVV f3 hS4 f2
              go_wp2_with fail
              refine SM.out.mono ?_
              rintro e w5 ⟨rfl, g5⟩
              have hb5 := Lib.hid (Nm.Nb HB.out g5)
              clear g5
              go_wp2
              go_ret
              exact ⟨rfl, hb5.out⟩
        · have hdl : decide ((j : Int) < (a.size : Int)) = false := decide_eq_false (by omega)
          clear hlt
          go_wp2_with fail
          refine (P1.out w1 hb1.out).mono ?_
          rintro e w2 ⟨v, rfl, o2, g2⟩
          obtain ⟨A, c, rfl, s2, _, _⟩ := o2.form
          rw [HM.out]
          have hx2 := Nm.al w2 (.cells #[.int .i64 (ps : Int), .slice A m c] 24)
          have hb2 := Lib.hid (Nm.Nb (Nm.Nb hb1.out g2) hx2)
          have S2 := Lib.hid (Nm.sbt s2 hx2)
          clear o2 g2 hx2 s2 P1
          by_cases h5 : pe = 5
          · subst h5
            clear P4
            go_wp2
            go_ret
            exact ⟨rfl, hb2.out⟩
          · have h5' : (pe == 5) = false := by simpa using h5
            obtain ⟨q4, P5⟩ := P4.out h5
            have P6 := Lib.hid P5
            have n1 : ¬ 9223372036854775807 < j + 1 := by omega
            have n2 : ¬ 9223372036854775807 < min j a.size + 1 := by omega
            have n3 : ¬ 9223372036854775807 < j + 1 + (a.size - j) := by omega
            have n4 : ¬ 9223372036854775807 < min j a.size + 1 + (a.size - j) := by omega
            have q2 : decide ((a.size : Int) < (j : Int)) = false := decide_eq_false (by omega)
            have q3 : decide (a.size < j) = false := decide_eq_false (by omega)
            clear P5 P4
            go_wp2_with fail
            go_region_held3 (fun _ => True) (trivial) (first
              | (go_at_call 20
                 (with_reducible refine (P6.out _ (by nm_below hb2.out)).mono ?_)
                 rintro e w4 ⟨v4, rfl, o4, g4⟩
                 obtain ⟨A4, c4, rfl, s4, _, _⟩ := o4.form
                 rw [HM.out]
                 (try (
                   have z4 := (g4.block (w2.alloc (.cells #[.int .i64 (ps : Int), .slice A m c] 24)).heap.size (by simp)).trans (heap_alloc_new (w2.alloc (.cells #[.int .i64 (ps : Int), .slice A m c] 24)) (.cells #[.int .i64 0, .slice none 0 0] 24))
                   rw [show (w2.alloc (.cells #[.int .i64 (ps : Int), .slice A m c] 24)).heap.size = w2.heap.size + 1 from by simp] at z4
                   obtain ⟨z40, z41, z42, z43, z44, z45⟩ := Nm.box2 z4 (.int .i64 (ps : Int)))))
              | fail)
            · have g5 := Nm.undrew g4
              have hV := Nm.Nb g5 (Nm.al w4 (.cells #[.int .i64 (ps : Int), .slice A4 m c4] 24))
              obtain ⟨f0, f1, f2, f3⟩ := Nm.blank_facts hb2.out S2.out hV
              have hS4 := Nm.sbt s4 (Nm.al w4 (.cells #[.int .i64 (ps : Int), .slice A4 m c4] 24))
              have zn := heap_alloc_new w4 (.cells #[.int .i64 (ps : Int), .slice A4 m c4] 24)
              have e0 : (w4.alloc (.cells #[.int .i64 (ps : Int), .slice A4 m c4] 24)).cell? ⟨w4.heap.size, 0, none⟩ = some (.int .i64 (ps : Int)) := Nm.cell_h zn 0
              have e1 : (w4.alloc (.cells #[.int .i64 (ps : Int), .slice A4 m c4] 24)).cell? ⟨w4.heap.size, 1, none⟩ = some (.slice A4 m c4) := Nm.cell_h zn 1
              clear zn hV g5 o4 s4 g4
              generalize hVV : w4.alloc (.cells #[.int .i64 (ps : Int), .slice A4 m c4] 24) = V at *
              have SM := Lib.hid (Nm.same_true (ps : Int) A c A4 c4 ss m HM.out (by omega) V f3 hS4)
              have HB := Lib.hid f2
              clear hVV f3 hS4 f2
              go_wp2_with fail
              refine SM.out.mono ?_
              rintro e w5 ⟨rfl, g5⟩
              have hb5 := Lib.hid (Nm.Nb HB.out g5)
              clear g5
              go_wp2
              go_ret
              exact ⟨rfl, hb5.out⟩
            · have g5 := Nm.Nb (Nm.al (w2.alloc (.cells #[.int .i64 (ps : Int), .slice A m c] 24)) (.cells #[.int .i64 0, .slice none 0 0] 24)) (Nm.undrew g4)
              have hk : ∀ i u W, Below (w2.alloc (.cells #[.int .i64 (ps : Int), .slice A m c] 24)).heap.size (w2.alloc (.cells #[.int .i64 (ps : Int), .slice A m c] 24)) W → Below (w2.alloc (.cells #[.int .i64 (ps : Int), .slice A m c] 24)).heap.size (w2.alloc (.cells #[.int .i64 (ps : Int), .slice A m c] 24)) (W.setCell ⟨w2.heap.size + 1, i, none⟩ u) := fun i u W h => h.setCell (by simp) u
              have hV := hk 1 (.slice A4 m c4) _ (hk 0 (.int .i64 (ps : Int)) _ g5)
              obtain ⟨f0, f1, f2, f3⟩ := Nm.blank_facts hb2.out S2.out hV
              have hS4 : Strs ((w4.setCell ⟨w2.heap.size + 1, 0, none⟩ (.int .i64 (ps : Int))).setCell ⟨w2.heap.size + 1, 1, none⟩ (.slice A4 m c4)) ((w4.setCell ⟨w2.heap.size + 1, 0, none⟩ (.int .i64 (ps : Int))).setCell ⟨w2.heap.size + 1, 1, none⟩ (.slice A4 m c4)).heap.size A4 ss := (OwnS.form (Nm.own_set (b := w2.heap.size + 1) (Nm.own_set (b := w2.heap.size + 1) o4 0 (.int .i64 (ps : Int)) (by simp)) 1 (.slice A4 m c4) (by simp))).elim fun _ h => h.elim fun _ h => by
                rw [HM.out] at h
                obtain ⟨h1, h2, _⟩ := h
                cases h1
                exact h2
              obtain ⟨e0, e1⟩ := Nm.put2 z4 (.int .i64 (ps : Int)) (.slice A4 m c4)
              clear z4 z40 z41 z42 z43 z44 z45 hV hk g5 o4 s4 g4
              generalize hVV : (w4.setCell ⟨w2.heap.size + 1, 0, none⟩ (.int .i64 (ps : Int))).setCell ⟨w2.heap.size + 1, 1, none⟩ (.slice A4 m c4) = V at *
              have SM := Lib.hid (Nm.same_true (ps : Int) A c A4 c4 ss m HM.out (by omega) V f3 hS4)
              have HB := Lib.hid f2
              clear hVV f3 hS4 f2
              go_wp2_with fail
              refine SM.out.mono ?_
              rintro e w5 ⟨rfl, g5⟩
              have hb5 := Lib.hid (Nm.Nb HB.out g5)
              clear g5
              go_wp2
              go_ret
              exact ⟨rfl, hb5.out⟩
end Go.Proofs.YthedfglaaignoaaDoor
