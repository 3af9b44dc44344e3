/- ClockTexts: the walk (layer 6). -/
import Derived.Test.YtkkgefefbamcpaaDoorClHd
set_option linter.unusedSimpArgs false
set_option linter.unusedVariables false
namespace Go.Proofs.YtkkgefefbamcpaaDoor
open Go.RowKit
set_option maxRecDepth 100000

theorem Cl.parse_nil : Cl.parseF ⟨#[]⟩ = (0, 5) := by
  refine Cl.parseF_not fun t ht he => ?_
  have h1 := (Cl.txl_len ht).1
  have h2 := congrArg (fun b : ByteArray => b.data.toList.length) he
  simp only [Cl.txt_list] at h2
  rw [h1] at h2
  simp at h2
theorem Cl.parse_cases (s : ByteArray) : (∃ t : Nat, t ≤ 144001439 ∧ Cl.txt t = s ∧ Cl.parseF s = ((t : Int), 0)) ∨ Cl.parseF s = (0, 5) := by
  by_cases h : ∃ t : Nat, t ≤ 144001439 ∧ Cl.txt t = s
  · obtain ⟨t, ht, rfl⟩ := h
    exact .inl ⟨t, ht, rfl, Cl.parseF_txt ht⟩
  · exact .inr (Cl.parseF_not fun t h1 h2 => h ⟨t, h1, h2⟩)
theorem Cl.txt_size {t : Nat} (h : t ≤ 144001439) : (Cl.txt t).size ≤ 12 := by
  have := Cl.txl_len h
  unfold Cl.txt
  rw [Cl.bsize]
  omega
theorem Cl.textF_ok {t : Nat} (h : t ≤ 144001439) : Cl.textF (t : Int) = (Cl.txt t, 0) := by
  unfold Cl.textF
  rw [if_pos ((Cl.isI_iff _).2 (by omega))]
  rfl
theorem Cl.textF_bad {t : Int} (h : ¬ (0 ≤ t ∧ t ≤ 144001439)) : Cl.textF t = (⟨#[]⟩, 1) := by
  unfold Cl.textF
  rw [if_neg (fun e => h ((Cl.isI_iff _).1 e))]
  rfl

set_option maxHeartbeats 2000000 in
theorem texts_walk (t : Int) (text : ByteArray) (w : World) (hp : PowC w.heap.size w) (ht : (Lit.int .i64 t).wf = true) (hs : text.size ≤ maxLen) :
    Calls Tryd.prog 9 #[.int .i64 t, .string text] w fun e w' => e = .returned (.bool true) ∧ Below w.heap.size w w' := by
  have HH := Lib.hid (head_any w hp)
  by_cases hl : 200 < text.size
  · go_enter Tryd.func9, Tryd.ntmps9
    go_wp2_with fail
    refine HH.out.mono ?_
    rintro e w1 ⟨rfl, hb⟩
    go_wp2_with fail
    go_ret
    exact ⟨rfl, hb⟩
  have T1 : Hid (∀ v, Below w.heap.size w v → Calls Tryd.prog 18 #[.int .i64 t] v fun e w' => e = .returned (.tuple #[.string (Cl.textF t).1, .int .i64 (Cl.textF t).2]) ∧ Below v.heap.size v w') := Lib.hid (fun v h => text_any t v (hp.bt h))
  have P1 : Hid (∀ v, Below w.heap.size w v → Calls Tryd.prog 20 #[.string (Cl.textF t).1] v fun e w' => e = .returned (.tuple #[.int .i64 (Cl.parseF (Cl.textF t).1).1, .int .i64 (Cl.parseF (Cl.textF t).1).2]) ∧ Below v.heap.size v w') := Lib.hid (fun v h => parse_any _ v (by
    by_cases hi : 0 ≤ t ∧ t ≤ 144001439
    · obtain ⟨n, rfl⟩ : ∃ n : Nat, t = n := ⟨t.toNat, by omega⟩
      rw [Cl.textF_ok (by omega)]
      have := Cl.txt_size (t := n) (by omega)
      exact Nat.le_trans this (by decide)
    · rw [Cl.textF_bad hi]
      decide) (hp.bt h))
  have P2 : Hid (∀ v, Below w.heap.size w v → Calls Tryd.prog 20 #[.string text] v fun e w' => e = .returned (.tuple #[.int .i64 (Cl.parseF text).1, .int .i64 (Cl.parseF text).2]) ∧ Below v.heap.size v w') := Lib.hid (fun v h => parse_any text v (by omega) (hp.bt h))
  have T2 : Hid (∀ v, Below w.heap.size w v → Calls Tryd.prog 18 #[.int .i64 (Cl.parseF text).1] v fun e w' => e = .returned (.tuple #[.string (Cl.textF (Cl.parseF text).1).1, .int .i64 (Cl.textF (Cl.parseF text).1).2]) ∧ Below v.heap.size v w') := Lib.hid (fun v h => text_any _ v (hp.bt h))
  have hl' : text.size ≤ 200 := by omega
  clear hs hl hp
  by_cases h0 : 0 ≤ t
  · by_cases h1 : t ≤ 144001439
    · obtain ⟨n, rfl⟩ : ∃ n : Nat, t = n := ⟨t.toNat, by omega⟩
      have hn : n ≤ 144001439 := by omega
      rw [Cl.textF_ok hn] at T1 P1
      dsimp only at P1
      rw [Cl.parseF_txt hn] at P1
      generalize Cl.txt n = own at T1 P1
      rcases Cl.parse_cases text with ⟨u, hu, rfl, hpu⟩ | hpu
      · rw [hpu] at P2 T2
        rw [Cl.textF_ok hu] at T2
        clear hpu
        dsimp only at P1 P2 T1 T2
        generalize Cl.txt u = text at *
        go_enter Tryd.func9, Tryd.ntmps9
        go_wp2_with fail
        refine HH.out.mono ?_
        rintro e w1 ⟨rfl, hb1⟩
        go_wp2_with fail
        refine (T1.out _ hb1).mono ?_
        rintro e w2 ⟨rfl, g⟩
        have hb2 := Cl.Nb hb1 g
        clear g hb1
        go_wp2_with fail
        refine (P1.out _ hb2).mono ?_
        rintro e w3 ⟨rfl, g⟩
        have hb3 := Cl.Nb hb2 g
        clear g hb2
        go_wp2_with fail
        refine (P2.out _ hb3).mono ?_
        rintro e w4 ⟨rfl, g⟩
        have hb4 := Cl.Nb hb3 g
        clear g hb3
        go_wp2_with fail
        refine (T2.out _ hb4).mono ?_
        rintro e w5 ⟨rfl, g⟩
        have hb5 := Cl.Nb hb4 g
        clear g hb4
        go_wp2_with fail
        go_ret
        exact ⟨rfl, hb5⟩
      · rw [hpu] at P2
        clear hpu T2
        dsimp only at P1 P2 T1
        go_enter Tryd.func9, Tryd.ntmps9
        go_wp2_with fail
        refine HH.out.mono ?_
        rintro e w1 ⟨rfl, hb1⟩
        go_wp2_with fail
        refine (T1.out _ hb1).mono ?_
        rintro e w2 ⟨rfl, g⟩
        have hb2 := Cl.Nb hb1 g
        clear g hb1
        go_wp2_with fail
        refine (P1.out _ hb2).mono ?_
        rintro e w3 ⟨rfl, g⟩
        have hb3 := Cl.Nb hb2 g
        clear g hb2
        go_wp2_with fail
        refine (P2.out _ hb3).mono ?_
        rintro e w4 ⟨rfl, g⟩
        have hb4 := Cl.Nb hb3 g
        clear g hb3
        go_wp2_with fail
        go_ret
        exact ⟨rfl, hb4⟩
    · rw [Cl.textF_bad (by omega)] at T1 P1
      dsimp only at P1
      rw [Cl.parse_nil] at P1
      rcases Cl.parse_cases text with ⟨u, hu, rfl, hpu⟩ | hpu
      · rw [hpu] at P2 T2
        rw [Cl.textF_ok hu] at T2
        clear hpu
        dsimp only at P1 P2 T1 T2
        generalize Cl.txt u = text at *
        go_enter Tryd.func9, Tryd.ntmps9
        go_wp2_with fail
        refine HH.out.mono ?_
        rintro e w1 ⟨rfl, hb1⟩
        go_wp2_with fail
        refine (T1.out _ hb1).mono ?_
        rintro e w2 ⟨rfl, g⟩
        have hb2 := Cl.Nb hb1 g
        clear g hb1
        go_wp2_with fail
        refine (P1.out _ hb2).mono ?_
        rintro e w3 ⟨rfl, g⟩
        have hb3 := Cl.Nb hb2 g
        clear g hb2
        go_wp2_with fail
        refine (P2.out _ hb3).mono ?_
        rintro e w4 ⟨rfl, g⟩
        have hb4 := Cl.Nb hb3 g
        clear g hb3
        go_wp2_with fail
        refine (T2.out _ hb4).mono ?_
        rintro e w5 ⟨rfl, g⟩
        have hb5 := Cl.Nb hb4 g
        clear g hb4
        go_wp2_with fail
        go_ret
        exact ⟨rfl, hb5⟩
      · rw [hpu] at P2
        clear hpu T2
        dsimp only at P1 P2 T1
        go_enter Tryd.func9, Tryd.ntmps9
        go_wp2_with fail
        refine HH.out.mono ?_
        rintro e w1 ⟨rfl, hb1⟩
        go_wp2_with fail
        refine (T1.out _ hb1).mono ?_
        rintro e w2 ⟨rfl, g⟩
        have hb2 := Cl.Nb hb1 g
        clear g hb1
        go_wp2_with fail
        refine (P1.out _ hb2).mono ?_
        rintro e w3 ⟨rfl, g⟩
        have hb3 := Cl.Nb hb2 g
        clear g hb2
        go_wp2_with fail
        refine (P2.out _ hb3).mono ?_
        rintro e w4 ⟨rfl, g⟩
        have hb4 := Cl.Nb hb3 g
        clear g hb3
        go_wp2_with fail
        go_ret
        exact ⟨rfl, hb4⟩
  · rw [Cl.textF_bad (by omega)] at T1 P1
    dsimp only at P1
    rw [Cl.parse_nil] at P1
    rcases Cl.parse_cases text with ⟨u, hu, rfl, hpu⟩ | hpu
    · rw [hpu] at P2 T2
      rw [Cl.textF_ok hu] at T2
      clear hpu
      dsimp only at P1 P2 T1 T2
      generalize Cl.txt u = text at *
      go_enter Tryd.func9, Tryd.ntmps9
      go_wp2_with fail
      refine HH.out.mono ?_
      rintro e w1 ⟨rfl, hb1⟩
      go_wp2_with fail
      refine (T1.out _ hb1).mono ?_
      rintro e w2 ⟨rfl, g⟩
      have hb2 := Cl.Nb hb1 g
      clear g hb1
      go_wp2_with fail
      refine (P1.out _ hb2).mono ?_
      rintro e w3 ⟨rfl, g⟩
      have hb3 := Cl.Nb hb2 g
      clear g hb2
      go_wp2_with fail
      refine (P2.out _ hb3).mono ?_
      rintro e w4 ⟨rfl, g⟩
      have hb4 := Cl.Nb hb3 g
      clear g hb3
      go_wp2_with fail
      refine (T2.out _ hb4).mono ?_
      rintro e w5 ⟨rfl, g⟩
      have hb5 := Cl.Nb hb4 g
      clear g hb4
      go_wp2_with fail
      go_ret
      exact ⟨rfl, hb5⟩
    · rw [hpu] at P2
      clear hpu T2
      dsimp only at P1 P2 T1
      go_enter Tryd.func9, Tryd.ntmps9
      go_wp2_with fail
      refine HH.out.mono ?_
      rintro e w1 ⟨rfl, hb1⟩
      go_wp2_with fail
      refine (T1.out _ hb1).mono ?_
      rintro e w2 ⟨rfl, g⟩
      have hb2 := Cl.Nb hb1 g
      clear g hb1
      go_wp2_with fail
      refine (P1.out _ hb2).mono ?_
      rintro e w3 ⟨rfl, g⟩
      have hb3 := Cl.Nb hb2 g
      clear g hb2
      go_wp2_with fail
      refine (P2.out _ hb3).mono ?_
      rintro e w4 ⟨rfl, g⟩
      have hb4 := Cl.Nb hb3 g
      clear g hb3
      go_wp2_with fail
      go_ret
      exact ⟨rfl, hb4⟩
end Go.Proofs.YtkkgefefbamcpaaDoor
