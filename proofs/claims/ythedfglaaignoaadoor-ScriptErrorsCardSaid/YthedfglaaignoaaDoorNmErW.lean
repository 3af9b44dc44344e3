/- ScriptErrors: the walk. -/
import Derived.Test.YthedfglaaignoaaDoorNmHd
set_option linter.unusedSimpArgs false
set_option linter.unusedVariables false
namespace Go.Proofs.YthedfglaaignoaaDoor
open Go.RowKit Go.Shelf
set_option maxRecDepth 100000
set_option maxHeartbeats 1000000
theorem Nm.fin_cases (ws : List Nm.T) : Nm.fin ws = ([], 6, 0) ∨ ∃ x, Nm.fin ws = (x, 0, 0) := by
  unfold Nm.fin
  split
  · exact .inl rfl
  · exact .inr ⟨_, rfl⟩
theorem Nm.parse_errors {t : Nm.T} (hl : t.length ≤ 20000) :
    ((Nm.parse t).e = 0 ∧ (Nm.parse t).a = 0) ∨ ((Nm.parse t).e = 5 ∧ (Nm.parse t).a = 0) ∨ ((Nm.parse t).e = 6 ∧ (Nm.parse t).a = (t.length : Int)) ∨
    (((Nm.parse t).e = 2 ∨ (Nm.parse t).e = 3) ∧ ∃ k : Nat, (Nm.parse t).a = (k : Int) ∧ 6 ≤ k ∧ k < t.length ∧ (((Nm.parse (t.take k)).e = 0 ∧ (Nm.parse (t.take k)).a = 0) ∨ ((Nm.parse (t.take k)).e = 6 ∧ (Nm.parse (t.take k)).a = (k : Int)))) := by
  cases hf : Nm.find t with
  | none =>
    rw [Nm.parse_none hl hf]
    exact .inr (.inl ⟨rfl, rfl⟩)
  | some s =>
    obtain ⟨h1, h4, r, rfl⟩ := Nm.find_some hf
    have h6 := Nm.title_len h1 h4
    rw [Nm.parse_title h1 h4 hl]
    have hll := Nm.scan_left s r [] [] 0
    rcases Nm.scan_range s r [] [] 0 with h | ⟨h, h0⟩ | h
    · rw [if_pos h]
      exact .inl ⟨rfl, rfl⟩
    · rw [if_neg (by rw [h]; decide)]
      exact .inr (.inr (.inl ⟨h, by rw [h0]; rfl⟩))
    · obtain ⟨e1, e2, ws', e3⟩ := Nm.scan_err s r [] [] 0 h
      rw [if_neg (by rcases h with h | h <;> rw [h] <;> decide)]
      refine .inr (.inr (.inr ⟨h, _, rfl, ?_, ?_, ?_⟩))
      · rw [List.length_append]; omega
      · rw [List.length_append]; omega
      · have ht : (Nm.title s ++ r).take ((Nm.title s ++ r).length - (Nm.scan s r [] [] 0).2.2) = Nm.title s ++ r.take (r.length - (Nm.scan s r [] [] 0).2.2) := by
          rw [List.length_append, show (Nm.title s).length + r.length - (Nm.scan s r [] [] 0).2.2 = (Nm.title s).length + (r.length - (Nm.scan s r [] [] 0).2.2) from by omega, List.take_length_add_append]
        rw [ht, Nm.parse_title h1 h4 (by rw [List.length_append, List.length_take]; rw [List.length_append] at hl; omega), e3]
        rcases Nm.fin_cases ws' with e4 | ⟨x, e4⟩
        · rw [e4]
          refine .inr ⟨rfl, ?_⟩
          show (((Nm.title s ++ r.take (r.length - (Nm.scan s r [] [] 0).2.2)).length - 0 : Nat) : Int) = _
          rw [List.length_append, List.length_take, List.length_append]
          omega
        · rw [e4]
          exact .inl ⟨rfl, rfl⟩

theorem Nm.take_ext (t : ByteArray) (k : Nat) : (t.extract 0 k).data.toList = t.data.toList.take k := by
  rw [Lib.extract_data]
  simp
theorem Nm.errors_walk (t : ByteArray) (w : World) (hp : Nm.Pa w.heap.size w) (ht : t.size ≤ maxLen) :
    Calls Tryd.prog 9 #[.string t] w fun e w' => e = .returned (.bool true) ∧ Below w.heap.size w w' := by
  have HD := Lib.hid (Nm.head_any w hp)
  by_cases hl : 2000 < t.size
  · have hd : decide ((2000 : Int) < (t.size : Int)) = true := decide_eq_true (by omega)
    clear hp ht hl
    go_enter Tryd.func9, Tryd.ntmps9
    go_wp2_with fail
    refine HD.out.mono ?_
    rintro e w1 ⟨rfl, g1⟩
    go_wp2
    go_ret
    exact ⟨rfl, g1⟩
  · have hd : decide ((2000 : Int) < (t.size : Int)) = false := decide_eq_false (by omega)
    have hlen := Lib.size_eq t
    have hpe := Nm.parse_errors (t := t.data.toList) (by omega)
    have P1 := Lib.hid (fun v (hv : Below w.heap.size w v) => Nm.parse_any t v ht (hp.bt hv))
    unfold Nm.PPost at P1
    rw [← hlen] at hpe
    have P2 := Lib.hid (fun (k : Nat) v (hv : Below w.heap.size w v) (hk : k ≤ t.size) => Nm.parse_any (t.extract 0 k) v (by rw [Lib.size_eq, Nm.take_ext, List.length_take]; omega) (hp.bt hv))
    obtain ⟨p, hpp⟩ : ∃ p, Nm.parse t.data.toList = p := ⟨_, rfl⟩
    rw [hpp] at P1 hpe
    clear hpp hlen hp ht
    obtain ⟨ps, pw, pe, pa⟩ := p
    simp only at hpe P1
    rcases hpe with ⟨rfl, rfl⟩ | ⟨rfl, rfl⟩ | ⟨rfl, rfl⟩ | ⟨hpe, k, rfl, k6, kt, hq⟩
    · clear P2 hl
      go_enter Tryd.func9, Tryd.ntmps9
      go_wp2_with fail
      refine HD.out.mono ?_
      rintro e w1 ⟨rfl, g1⟩
      go_wp2_with fail
      refine (P1.out w1 g1).mono ?_
      rintro e w2 ⟨v, rfl, o2, g2⟩
      obtain ⟨A2, c2, rfl, _, _, _⟩ := o2.form
      have hb := Nm.Nb (Nm.Nb g1 g2) (Nm.al w2 (.cells #[.int .i64 (ps : Int), .slice A2 (pw.map Nm.bt).length c2] 24))
      clear o2 g1 g2
      obtain ⟨m, hm⟩ : ∃ m, (pw.map Nm.bt).length = m := ⟨_, rfl⟩
      rw [hm] at hb ⊢
      go_wp2
      go_ret
      exact ⟨rfl, hb⟩
    · clear P2 hl
      go_enter Tryd.func9, Tryd.ntmps9
      go_wp2_with fail
      refine HD.out.mono ?_
      rintro e w1 ⟨rfl, g1⟩
      go_wp2_with fail
      refine (P1.out w1 g1).mono ?_
      rintro e w2 ⟨v, rfl, o2, g2⟩
      obtain ⟨A2, c2, rfl, _, _, _⟩ := o2.form
      have hb := Nm.Nb (Nm.Nb g1 g2) (Nm.al w2 (.cells #[.int .i64 (ps : Int), .slice A2 (pw.map Nm.bt).length c2] 24))
      clear o2 g1 g2
      obtain ⟨m, hm⟩ : ∃ m, (pw.map Nm.bt).length = m := ⟨_, rfl⟩
      rw [hm] at hb ⊢
      go_wp2
      go_ret
      exact ⟨rfl, hb⟩
    · clear P2 hl
      go_enter Tryd.func9, Tryd.ntmps9
      go_wp2_with fail
      refine HD.out.mono ?_
      rintro e w1 ⟨rfl, g1⟩
      go_wp2_with fail
      refine (P1.out w1 g1).mono ?_
      rintro e w2 ⟨v, rfl, o2, g2⟩
      obtain ⟨A2, c2, rfl, _, _, _⟩ := o2.form
      have hb := Nm.Nb (Nm.Nb g1 g2) (Nm.al w2 (.cells #[.int .i64 (ps : Int), .slice A2 (pw.map Nm.bt).length c2] 24))
      clear o2 g1 g2
      obtain ⟨m, hm⟩ : ∃ m, (pw.map Nm.bt).length = m := ⟨_, rfl⟩
      rw [hm] at hb ⊢
      go_wp2
      go_ret
      exact ⟨rfl, hb⟩
    · have P3 := Lib.hid (fun v hv => P2.out k v hv (by omega))
      rw [Nm.take_ext] at P3
      obtain ⟨q, hqq⟩ : ∃ q, Nm.parse (t.data.toList.take k) = q := ⟨_, rfl⟩
      rw [hqq] at P3 hq
      clear hqq P2
      obtain ⟨qs, qw, qe, qa⟩ := q
      simp only at hq P3
      have d1 : decide ((k : Int) < 6) = false := decide_eq_false (by omega)
      have d2 : decide ((t.size : Int) ≤ (k : Int)) = false := decide_eq_false (by omega)
      have d3 : decide (t.size ≤ k) = false := decide_eq_false (by omega)
      have d4 : ¬ (t.size ≤ k) := by omega
      have k0 : (0 : Int) ≤ (k : Int) := by omega
      have k1 : (k : Int) ≤ (t.size : Int) := by omega
      unfold Nm.PPost at P3
      simp only at P3
      clear kt hl
      rcases hpe with rfl | rfl <;> rcases hq with ⟨rfl, rfl⟩ | ⟨rfl, rfl⟩
      all_goals
        go_enter Tryd.func9, Tryd.ntmps9
        go_wp2_with fail
        refine HD.out.mono ?_
        rintro e w1 ⟨rfl, g1⟩
        go_wp2_with fail
        refine (P1.out w1 g1).mono ?_
        rintro e w2 ⟨v, rfl, o2, g2⟩
        obtain ⟨A2, c2, rfl, _, _, _⟩ := o2.form
        have hb := Lib.hid (Nm.Nb (Nm.Nb g1 g2) (Nm.al w2 (.cells #[.int .i64 (ps : Int), .slice A2 (pw.map Nm.bt).length c2] 24)))
        clear o2 g1 g2
        obtain ⟨m, hm⟩ : ∃ m, (pw.map Nm.bt).length = m := ⟨_, rfl⟩
        rw [hm] at hb ⊢
        clear hm
        go_wp2_with fail
        refine (P3.out _ hb.out).mono ?_
        rintro e w3 ⟨v3, rfl, o3, g3⟩
        obtain ⟨A3, c3, rfl, _, _, _⟩ := o3.form
        have hb3 := Lib.hid (Nm.Nb (Nm.Nb hb.out g3) (Nm.al w3 (.cells #[.int .i64 (qs : Int), .slice A3 (qw.map Nm.bt).length c3] 24)))
        clear o3 g3
        obtain ⟨n, hn⟩ : ∃ n, (qw.map Nm.bt).length = n := ⟨_, rfl⟩
        rw [hn] at hb3 ⊢
        go_wp2
        go_ret
        exact ⟨rfl, hb3.out⟩
end Go.Proofs.YthedfglaaignoaaDoor
