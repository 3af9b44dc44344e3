/- ScriptTexts: the walk. -/
import Derived.Test.YthedfglaaignoaaDoorNmTu
set_option linter.unusedSimpArgs false
set_option linter.unusedVariables false
namespace Go.Proofs.YthedfglaaignoaaDoor
open Go.RowKit Go.Shelf
set_option maxRecDepth 100000
set_option maxHeartbeats 8000000
theorem Nm.few_n (k : Int) (A : Option Addr) (c : Nat) (ss : List ByteArray) (n : Nat) (hn : ss.length = n) (hl : n ≤ maxLen) (w : World) (hs : Strs w w.heap.size A ss) :
    Calls Tryd.prog 12 #[.agg #[.int .i64 k, .slice A n c]] w fun e w' => e = .returned (.bool (Nm.fw ss)) ∧ Below w.heap.size w w' := by
  have := Nm.few_any k A c ss w hs (by omega)
  rwa [hn] at this
theorem Nm.text_n (k : Int) (A : Option Addr) (c : Nat) (ss : List ByteArray) (n : Nat) (hn : ss.length = n) (w : World) (hs : Strs w w.heap.size A ss) (hc : n ≤ c) (hc2 : c ≤ maxLen) (hm : ∀ x ∈ ss, x.size ≤ maxLen) (h : Nm.Tb w.heap.size w) :
    Calls Tryd.prog 18 #[.agg #[.int .i64 k, .slice A n c]] w fun e w' => e = .returned (.tuple #[.string (Nm.tx k ss), .int .i64 (Nm.te k ss)]) ∧ Below w.heap.size w w' := by
  have := Nm.text_uni k A c ss w hs (by omega) hc2 hm h
  rwa [hn] at this
theorem Nm.valid_n (k : Int) (A : Option Addr) (c : Nat) (ss : List ByteArray) (n : Nat) (hn : ss.length = n) (hl : n ≤ maxLen) (w : World) (hs : Strs w w.heap.size A ss) (hm : ∀ x ∈ ss, x.size ≤ maxLen) (h : Nm.Tb w.heap.size w) :
    Calls Tryd.prog 22 #[.agg #[.int .i64 k, .slice A n c]] w fun e w' => e = .returned (.bool (Nm.okT k ss)) ∧ Below w.heap.size w w' := by
  have := Nm.valid_any k A c ss w hs (by omega) hm h
  rwa [hn] at this
theorem Nm.same_n (k : Int) (A : Option Addr) (c : Nat) (ss : List ByteArray) (n : Nat) (l : Int) (B : Option Addr) (d : Nat) (tt : List ByteArray) (m : Nat) (hn : ss.length = n) (hm : tt.length = m) (hl : n ≤ maxLen) (hl2 : m ≤ maxLen) (w : World) (ha : Strs w w.heap.size A ss) (hb : Strs w w.heap.size B tt) :
    Calls Tryd.prog 25 #[.agg #[.int .i64 k, .slice A n c], .agg #[.int .i64 l, .slice B m d]] w fun e w' => e = .returned (.bool (decide (k = l) && decide (ss = tt))) ∧ Below w.heap.size w w' := by
  have := Nm.same_any k A c ss l B d tt w ha hb (by omega) (by omega)
  rwa [hn, hm] at this
theorem Nm.two_new (w : World) (k l : Int) (A B : Option Addr) (n m c d : Nat) : Nm.Two w.heap.size k l A B n m c d ((w.alloc (.cells #[.int .i64 k, .slice A n c] 24)).alloc (.cells #[.int .i64 l, .slice B m d] 24)) := by
  have h1 := heap_alloc_new (w.alloc (.cells #[.int .i64 k, .slice A n c] 24)) (.cells #[.int .i64 l, .slice B m d] 24)
  rw [show (w.alloc (.cells #[.int .i64 k, .slice A n c] 24)).heap.size = w.heap.size + 1 from by simp] at h1
  have h0 := ((Nm.al (w.alloc (.cells #[.int .i64 k, .slice A n c] 24)) (.cells #[.int .i64 l, .slice B m d] 24)).block w.heap.size (by simp)).trans (heap_alloc_new w (.cells #[.int .i64 k, .slice A n c] 24))
  exact ⟨Nm.cell_h h0 0, Nm.cell_h h0 1, Nm.cell_h h1 0, Nm.cell_h h1 1, by simp⟩
theorem Nm.texts_walk (k : Int) (A : Option Addr) (c : Nat) (ss : List ByteArray) (l : Int) (B : Option Addr) (d : Nat) (tt : List ByteArray) (a : ByteArray) (w : World) (hp : Nm.Pa w.heap.size w)
    (hs : Strs w w.heap.size A ss) (hk : ss.length ≤ c) (hm : c ≤ maxLen) (hx : ∀ x ∈ ss, x.size ≤ maxLen) (wi : (Go.Lit.int .i64 k).wf = true)
    (hs2 : Strs w w.heap.size B tt) (hk2 : tt.length ≤ d) (hm2 : d ≤ maxLen) (hx2 : ∀ x ∈ tt, x.size ≤ maxLen) (wi2 : (Go.Lit.int .i64 l).wf = true) (ha : a.size ≤ maxLen) :
    Calls Tryd.prog 7 #[.agg #[.int .i64 k, .slice A ss.length c], .agg #[.int .i64 l, .slice B tt.length d], .string a] w fun e w' => e = .returned (.bool true) ∧ Below w.heap.size w w' := by
  have HD0 := Lib.hid (fun v (hv : Below w.heap.size w v) => Nm.head_any v (hp.bt hv))
  obtain ⟨n, hn⟩ : ∃ n, ss.length = n := ⟨_, rfl⟩
  obtain ⟨m, hmm⟩ : ∃ m, tt.length = m := ⟨_, rfl⟩
  rw [hn] at hk ⊢
  rw [hmm] at hk2 ⊢
  have FA := Lib.hid (fun v (hv : Below w.heap.size w v) => Nm.few_n k A c ss n hn (by omega) v (Nm.sbt hs hv))
  have FB := Lib.hid (fun v (hv : Below w.heap.size w v) => Nm.few_n l B d tt m hmm (by omega) v (Nm.sbt hs2 hv))
  have hW := Nm.Nb (Nm.al w (.cells #[.int .i64 k, .slice A n c] 24)) (Nm.al _ (.cells #[.int .i64 l, .slice B m d] 24))
  have hT := Nm.two_new w k l A B n m c d
  have HW := Lib.hid hW
  have HT := Lib.hid hT
  clear hW hT
  cases hfa : Nm.fw ss with
  | false =>
    rw [hfa] at FA
    clear FB hfa hs hs2 hp hx hx2 ha wi wi2 hn hmm hk hk2 hm hm2
    go_enter Tryd.func7, Tryd.ntmps7
    go_wp2_with fail
    refine (HD0.out _ HW.out).mono ?_
    rintro e w1 ⟨rfl, g1⟩
    have hb1 := Lib.hid (Nm.Nb HW.out g1)
    have T1 := Lib.hid (HT.out.bt g1)
    clear g1 HW HT
    obtain ⟨z0, z1, z2, z3, _⟩ := T1.out
    go_wp2_with fail
    refine (FA.out w1 hb1.out).mono ?_
    rintro e w2 ⟨rfl, g2⟩
    have hb2 := Lib.hid (Nm.Nb hb1.out g2)
    have T2 := Lib.hid (T1.out.bt g2)
    clear g2 z0 z1 z2 z3 T1 hb1
    obtain ⟨z0, z1, z2, z3, _⟩ := T2.out
    go_wp2
    go_ret
    exact ⟨rfl, hb2.out⟩
  | true =>
  rw [hfa] at FA
  cases hfb : Nm.fw tt with
  | false =>
    rw [hfb] at FB
    clear hfa hfb hs hs2 hp hx hx2 ha wi wi2 hn hmm hk hk2 hm hm2
    go_enter Tryd.func7, Tryd.ntmps7
    go_wp2_with fail
    refine (HD0.out _ HW.out).mono ?_
    rintro e w1 ⟨rfl, g1⟩
    have hb1 := Lib.hid (Nm.Nb HW.out g1)
    have T1 := Lib.hid (HT.out.bt g1)
    clear g1 HW HT
    obtain ⟨z0, z1, z2, z3, _⟩ := T1.out
    go_wp2_with fail
    refine (FA.out w1 hb1.out).mono ?_
    rintro e w2 ⟨rfl, g2⟩
    have hb2 := Lib.hid (Nm.Nb hb1.out g2)
    have T2 := Lib.hid (T1.out.bt g2)
    clear g2 z0 z1 z2 z3 T1 hb1
    obtain ⟨z0, z1, z2, z3, _⟩ := T2.out
    go_wp2_with fail
    refine (FB.out w2 hb2.out).mono ?_
    rintro e w3 ⟨rfl, g3⟩
    have hb3 := Lib.hid (Nm.Nb hb2.out g3)
    have T3 := Lib.hid (T2.out.bt g3)
    clear g3 z0 z1 z2 z3 T2 hb2
    obtain ⟨z0, z1, z2, z3, _⟩ := T3.out
    go_wp2
    go_ret
    exact ⟨rfl, hb3.out⟩
  | true =>
  rw [hfb] at FB
  by_cases h2000 : 2000 < a.size
  · have hd : decide ((2000 : Int) < (a.size : Int)) = true := decide_eq_true (by omega)
    clear hfa hfb hs hs2 hp hx hx2 ha wi wi2 hn hmm hk hk2 hm hm2 h2000
    go_enter Tryd.func7, Tryd.ntmps7
    go_wp2_with fail
    refine (HD0.out _ HW.out).mono ?_
    rintro e w1 ⟨rfl, g1⟩
    have hb1 := Lib.hid (Nm.Nb HW.out g1)
    have T1 := Lib.hid (HT.out.bt g1)
    clear g1 HW HT
    obtain ⟨z0, z1, z2, z3, _⟩ := T1.out
    go_wp2_with fail
    refine (FA.out w1 hb1.out).mono ?_
    rintro e w2 ⟨rfl, g2⟩
    have hb2 := Lib.hid (Nm.Nb hb1.out g2)
    have T2 := Lib.hid (T1.out.bt g2)
    clear g2 z0 z1 z2 z3 T1 hb1
    obtain ⟨z0, z1, z2, z3, _⟩ := T2.out
    go_wp2_with fail
    refine (FB.out w2 hb2.out).mono ?_
    rintro e w3 ⟨rfl, g3⟩
    have hb3 := Lib.hid (Nm.Nb hb2.out g3)
    have T3 := Lib.hid (T2.out.bt g3)
    clear g3 z0 z1 z2 z3 T2 hb2
    obtain ⟨z0, z1, z2, z3, _⟩ := T3.out
    go_wp2
    go_ret
    exact ⟨rfl, hb3.out⟩
  have hd : decide ((2000 : Int) < (a.size : Int)) = false := decide_eq_false (by omega)
  have TA := Lib.hid (fun v (hv : Below w.heap.size w v) => Nm.text_n k A c ss n hn v (Nm.sbt hs hv) hk hm hx (hp.bt hv).tb)
  have TB := Lib.hid (fun v (hv : Below w.heap.size w v) => Nm.text_n l B d tt m hmm v (Nm.sbt hs2 hv) hk2 hm2 hx2 (hp.bt hv).tb)
  have VA := Lib.hid (fun v (hv : Below w.heap.size w v) => Nm.valid_n k A c ss n hn (by omega) v (Nm.sbt hs hv) hx (hp.bt hv).tb)
  have HN0 := Lib.hid hn
  have P0 := Lib.hid (fun v (hv : Below w.heap.size w v) => Nm.parse_any a v ha (hp.bt hv))
  have hlen := Lib.size_eq a
  rcases Nm.parse_cases a.data.toList with hG | hB
  · obtain ⟨he, ha0, s, hs_, h1, h4, hv, hj⟩ := hG
    obtain ⟨_, _, _, hle⟩ := Nm.own_len he
    have PT0 := P0.out
    unfold Nm.PPost at PT0
    rw [hs_, he, ha0] at PT0
    rw [hs_] at hle
    obtain ⟨ws, hws⟩ : ∃ ws, (Nm.parse a.data.toList).ws = ws := ⟨_, rfl⟩
    rw [hws] at PT0 hv hle
    have hwl : Nm.wl (ws.map Nm.bt) = ws := by
      unfold Nm.wl
      rw [List.map_map, show ((fun x : ByteArray => x.data.toList) ∘ Nm.bt) = id from funext fun l => Nm.bt_list l, List.map_id]
    have hsc5 : Nm.sc (s : Int) = s := by
      unfold Nm.sc
      rw [if_pos (by omega)]
      simp
    have hok5 : Nm.okT (s : Int) (ws.map Nm.bt) = true := by
      unfold Nm.okT
      rw [hsc5, hwl]
      exact hv
    have hsz5 : ∀ x ∈ ws.map Nm.bt, x.size ≤ maxLen := fun x hx => by
      obtain ⟨y, hy, rfl⟩ := List.mem_map.1 hx
      have h24 := Nm.isW_len ((Nm.okN_iff hv).1 y hy)
      have : (Nm.bt y).size = y.length := by rw [Lib.size_eq, Nm.bt_list]
      unfold maxLen
      omega
    have hown : (Nm.tx (s : Int) (ws.map Nm.bt)).size ≤ a.size := by
      rw [Lib.size_eq, Nm.tx_list hok5, hsc5, hwl]
      omega
    have h6 : (ws.map Nm.bt).length ≤ 6 := by
      rw [List.length_map]
      exact (Nm.okN_iff hv).2.2
    obtain ⟨k5, hk5⟩ : ∃ k5 : Int, (s : Int) = k5 := ⟨_, rfl⟩
    obtain ⟨s5, hs5⟩ : ∃ s5, ws.map Nm.bt = s5 := ⟨_, rfl⟩
    rw [hk5, hs5] at PT0 hok5 hown
    rw [hs5] at hsz5 h6
    obtain ⟨n5, hn5⟩ : ∃ n5, s5.length = n5 := ⟨_, rfl⟩
    rw [hn5] at h6
    have hte : Nm.te k5 s5 = 0 := by unfold Nm.te; rw [if_pos hok5]
    have T5 := Lib.hid (fun V (A5 : Option Addr) (c5 : Nat) (hV : Below w.heap.size w V) (hS : Strs V V.heap.size A5 s5) (hc : n5 ≤ c5) (hm' : c5 ≤ maxLen) => Nm.text_n k5 A5 c5 s5 n5 hn5 V hS hc hm' hsz5 (hp.bt hV).tb)
    have V5c := Lib.hid (fun V (A5 : Option Addr) (c5 : Nat) (hV : Below w.heap.size w V) (hS : Strs V V.heap.size A5 s5) => Nm.valid_n k5 A5 c5 s5 n5 hn5 (by unfold maxLen; omega) V hS hsz5 (hp.bt hV).tb)
    rw [hte] at T5
    rw [hok5] at V5c
    obtain ⟨own5, hown5⟩ : ∃ o, Nm.tx k5 s5 = o := ⟨_, rfl⟩
    rw [hown5] at T5 hown
    have PT : Hid (∀ v, Below w.heap.size w v → Calls Tryd.prog 20 #[.string a] v fun e w' => ∃ z, e = .returned (.tuple #[.agg #[.int .i64 k5, z], .int .i64 0, .int .i64 0]) ∧ OwnS w' v.heap.size z s5 ∧ Below v.heap.size v w') := Lib.hid PT0
    have HN5 := Lib.hid hn5
    have hdo : decide ((own5.size : Int) ≤ (a.size : Int)) = true := decide_eq_true (by omega)
    clear PT0 P0 he ha0 hs_ h1 h4 hv hj hle hws hwl hsc5 hok5 hsz5 h6 hk5 hs5 hn5 hte hown5 hlen
    cases hoa : Nm.okT k ss with
    | false =>
      rw [show Nm.te k ss = 1 from by unfold Nm.te; rw [if_neg (by rw [hoa]; decide)], show Nm.tx k ss = ⟨#[]⟩ from by unfold Nm.tx; rw [if_neg (by rw [hoa]; decide)]] at TA
      rw [hoa] at VA
      clear hoa
      clear hfa hfb hs hs2 hp hx hx2 ha wi wi2 hn hmm hk hk2 hm hm2 h2000
      go_enter Tryd.func7, Tryd.ntmps7
      go_wp2_with fail
      refine (HD0.out _ HW.out).mono ?_
      rintro e w1 ⟨rfl, g1⟩
      have hb1 := Lib.hid (Nm.Nb HW.out g1)
      have T1 := Lib.hid (HT.out.bt g1)
      clear g1 HW HT
      obtain ⟨z0, z1, z2, z3, _⟩ := T1.out
      go_wp2_with fail
      refine (FA.out w1 hb1.out).mono ?_
      rintro e w2 ⟨rfl, g2⟩
      have hb2 := Lib.hid (Nm.Nb hb1.out g2)
      have T2 := Lib.hid (T1.out.bt g2)
      clear g2 z0 z1 z2 z3 T1 hb1
      obtain ⟨z0, z1, z2, z3, _⟩ := T2.out
      go_wp2_with fail
      refine (FB.out w2 hb2.out).mono ?_
      rintro e w3 ⟨rfl, g3⟩
      have hb3 := Lib.hid (Nm.Nb hb2.out g3)
      have T3 := Lib.hid (T2.out.bt g3)
      clear g3 z0 z1 z2 z3 T2 hb2
      obtain ⟨z0, z1, z2, z3, _⟩ := T3.out
      go_wp2_with fail
      refine (TA.out w3 hb3.out).mono ?_
      rintro e w4 ⟨rfl, g4⟩
      have hb4 := Lib.hid (Nm.Nb hb3.out g4)
      have T4 := Lib.hid (T3.out.bt g4)
      clear g4 z0 z1 z2 z3 T3 hb3
      obtain ⟨z0, z1, z2, z3, _⟩ := T4.out
      go_wp2_with fail
      refine (TB.out w4 hb4.out).mono ?_
      rintro e w5 ⟨rfl, g5⟩
      have hb5 := Lib.hid (Nm.Nb hb4.out g5)
      have T5 := Lib.hid (T4.out.bt g5)
      clear g5 z0 z1 z2 z3 T4 hb4
      obtain ⟨z0, z1, z2, z3, _⟩ := T5.out
      go_wp2_with fail
      refine (VA.out w5 hb5.out).mono ?_
      rintro e w6 ⟨rfl, g6⟩
      have hb6 := Lib.hid (Nm.Nb hb5.out g6)
      have T6 := Lib.hid (T5.out.bt g6)
      clear g6 z0 z1 z2 z3 T5 hb5
      obtain ⟨z0, z1, z2, z3, _⟩ := T6.out
      go_wp2_with fail
      refine (PT.out w6 hb6.out).mono ?_
      rintro e w7 ⟨zz, rfl, oo, g7⟩
      obtain ⟨A5, c5, rfl, s5, k5c, k5m⟩ := oo.form
      rw [HN5.out]
      rw [HN5.out] at k5c
      have gx := Nm.al w7 (.cells #[.int .i64 k5, .slice A5 n5 c5] 24)
      have hbx := Lib.hid (Nm.Nb (Nm.Nb hb6.out g7) gx)
      have hzn := heap_alloc_new w7 (.cells #[.int .i64 k5, .slice A5 n5 c5] 24)
      have y0 : (w7.alloc (.cells #[.int .i64 k5, .slice A5 n5 c5] 24)).cell? ⟨w7.heap.size, 0, none⟩ = some (.int .i64 k5) := Nm.cell_h hzn 0
      have y1 : (w7.alloc (.cells #[.int .i64 k5, .slice A5 n5 c5] 24)).cell? ⟨w7.heap.size, 1, none⟩ = some (.slice A5 n5 c5) := Nm.cell_h hzn 1
      have S5 := Lib.hid (Nm.sbt s5 gx)
      have hlt5 : w7.heap.size < (w7.alloc (.cells #[.int .i64 k5, .slice A5 n5 c5] 24)).heap.size := by simp
      clear g7 oo s5 gx hzn z0 z1 z2 z3 T6 hb6
      go_wp2_with fail
      refine (T5.out _ A5 c5 hbx.out S5.out k5c k5m).mono ?_
      rintro e W1 ⟨rfl, h1⟩
      have hbw1 := Lib.hid (Nm.Nb hbx.out h1)
      have S6 := Lib.hid (Nm.sbt S5.out h1)
      have x0 := (h1.cell (p := ⟨w7.heap.size, 0, none⟩) hlt5).trans y0
      have x1 := (h1.cell (p := ⟨w7.heap.size, 1, none⟩) hlt5).trans y1
      clear h1 y0 y1 T5 S5 hbx
      go_wp2_with fail
      refine (V5c.out W1 A5 c5 hbw1.out S6.out).mono ?_
      rintro e W2 ⟨rfl, h2⟩
      have hbw2 := Lib.hid (Nm.Nb hbw1.out h2)
      clear h2 x0 x1
      go_wp2
      go_ret
      exact ⟨rfl, hbw2.out⟩
    | true =>
    rw [show Nm.te k ss = 0 from by unfold Nm.te; rw [if_pos hoa]] at TA
    have hsc := (Nm.okT_sc hoa).2.2
    have PA : Hid (∀ v, Below w.heap.size w v → Calls Tryd.prog 20 #[.string (Nm.tx k ss)] v fun e w' => ∃ z, e = .returned (.tuple #[.agg #[.int .i64 k, z], .int .i64 0, .int .i64 0]) ∧ OwnS w' v.heap.size z ss ∧ Below v.heap.size v w') := Lib.hid (fun v hv => by
      have h1 := Nm.parse_any (Nm.tx k ss) v (by have := Nm.tx_size hoa; unfold maxLen; omega) (hp.bt hv)
      rw [Nm.tx_parse hoa] at h1
      unfold Nm.PPost at h1
      simp only [Nm.bt_wl] at h1
      rwa [← hsc] at h1)
    have SA := Lib.hid (fun (C : Option Addr) (e : Nat) v (hv : Below w.heap.size w v) (h1 : Strs v v.heap.size C ss) => Nm.same_n k C e ss n k A c ss n hn hn (by omega) (by omega) v h1 (Nm.sbt hs hv))
    simp only [decide_true, Bool.and_self] at SA
    have SB := Lib.hid (fun v (hv : Below w.heap.size w v) => Nm.same_n k A c ss n l B d tt m hn hmm (by omega) (by omega) v (Nm.sbt hs hv) (Nm.sbt hs2 hv))
    rw [hoa] at VA
    cases hob : Nm.okT l tt with
    | false =>
      rw [show Nm.te l tt = 1 from by unfold Nm.te; rw [if_neg (by rw [hob]; decide)]] at TB
      clear hoa hob hsc SB
      clear hfa hfb hs hs2 hp hx hx2 ha wi wi2 hn hmm hk hk2 hm hm2 h2000
      have HNA := Lib.hid HN0.out
      go_enter Tryd.func7, Tryd.ntmps7
      go_wp2_with fail
      refine (HD0.out _ HW.out).mono ?_
      rintro e w1 ⟨rfl, g1⟩
      have hb1 := Lib.hid (Nm.Nb HW.out g1)
      have T1 := Lib.hid (HT.out.bt g1)
      clear g1 HW HT
      obtain ⟨z0, z1, z2, z3, _⟩ := T1.out
      go_wp2_with fail
      refine (FA.out w1 hb1.out).mono ?_
      rintro e w2 ⟨rfl, g2⟩
      have hb2 := Lib.hid (Nm.Nb hb1.out g2)
      have T2 := Lib.hid (T1.out.bt g2)
      clear g2 z0 z1 z2 z3 T1 hb1
      obtain ⟨z0, z1, z2, z3, _⟩ := T2.out
      go_wp2_with fail
      refine (FB.out w2 hb2.out).mono ?_
      rintro e w3 ⟨rfl, g3⟩
      have hb3 := Lib.hid (Nm.Nb hb2.out g3)
      have T3 := Lib.hid (T2.out.bt g3)
      clear g3 z0 z1 z2 z3 T2 hb2
      obtain ⟨z0, z1, z2, z3, _⟩ := T3.out
      go_wp2_with fail
      refine (TA.out w3 hb3.out).mono ?_
      rintro e w4 ⟨rfl, g4⟩
      have hb4 := Lib.hid (Nm.Nb hb3.out g4)
      have T4 := Lib.hid (T3.out.bt g4)
      clear g4 z0 z1 z2 z3 T3 hb3
      obtain ⟨z0, z1, z2, z3, _⟩ := T4.out
      go_wp2_with fail
      refine (TB.out w4 hb4.out).mono ?_
      rintro e w5 ⟨rfl, g5⟩
      have hb5 := Lib.hid (Nm.Nb hb4.out g5)
      have T5 := Lib.hid (T4.out.bt g5)
      clear g5 z0 z1 z2 z3 T4 hb4
      obtain ⟨z0, z1, z2, z3, _⟩ := T5.out
      go_wp2_with fail
      refine (VA.out w5 hb5.out).mono ?_
      rintro e w6 ⟨rfl, g6⟩
      have hb6 := Lib.hid (Nm.Nb hb5.out g6)
      have T6 := Lib.hid (T5.out.bt g6)
      clear g6 z0 z1 z2 z3 T5 hb5
      obtain ⟨z0, z1, z2, z3, _⟩ := T6.out
      go_wp2_with fail
      refine (PA.out w6 hb6.out).mono ?_
      rintro e w7 ⟨zq, rfl, oq, g7⟩
      obtain ⟨A7, c7, rfl, s7, _, _⟩ := oq.form
      rw [HN0.out]
      have gx := Nm.al w7 (.cells #[.int .i64 k, .slice A7 n c7] 24)
      have hbx := Lib.hid (Nm.Nb (Nm.Nb hb6.out g7) gx)
      have T7 := Lib.hid ((T6.out.bt g7).bt gx)
      have hzn := heap_alloc_new w7 (.cells #[.int .i64 k, .slice A7 n c7] 24)
      have y0 : (w7.alloc (.cells #[.int .i64 k, .slice A7 n c7] 24)).cell? ⟨w7.heap.size, 0, none⟩ = some (.int .i64 k) := Nm.cell_h hzn 0
      have y1 : (w7.alloc (.cells #[.int .i64 k, .slice A7 n c7] 24)).cell? ⟨w7.heap.size, 1, none⟩ = some (.slice A7 n c7) := Nm.cell_h hzn 1
      have S7 := Lib.hid (Nm.sbt s7 gx)
      clear g7 oq s7 gx hzn z0 z1 z2 z3 T6 hb6 PA
      obtain ⟨z0, z1, z2, z3, _⟩ := T7.out
      go_wp2_with fail
      refine (SA.out A7 c7 _ hbx.out S7.out).mono ?_
      rintro e w8 ⟨rfl, g8⟩
      have hb8 := Lib.hid (Nm.Nb hbx.out g8)
      have T8 := Lib.hid (T7.out.bt g8)
      clear g8 z0 z1 z2 z3 y0 y1 T7 hbx SA S7
      obtain ⟨z0, z1, z2, z3, _⟩ := T8.out
      go_wp2_with fail
      refine (PT.out w8 hb8.out).mono ?_
      rintro e w9 ⟨zz, rfl, oo, g9⟩
      obtain ⟨A5, c5, rfl, s5, k5c, k5m⟩ := oo.form
      rw [HN5.out]
      rw [HN5.out] at k5c
      have gx := Nm.al w9 (.cells #[.int .i64 k5, .slice A5 n5 c5] 24)
      have hbx := Lib.hid (Nm.Nb (Nm.Nb hb8.out g9) gx)
      have hzn := heap_alloc_new w9 (.cells #[.int .i64 k5, .slice A5 n5 c5] 24)
      have y0 : (w9.alloc (.cells #[.int .i64 k5, .slice A5 n5 c5] 24)).cell? ⟨w9.heap.size, 0, none⟩ = some (.int .i64 k5) := Nm.cell_h hzn 0
      have y1 : (w9.alloc (.cells #[.int .i64 k5, .slice A5 n5 c5] 24)).cell? ⟨w9.heap.size, 1, none⟩ = some (.slice A5 n5 c5) := Nm.cell_h hzn 1
      have S5 := Lib.hid (Nm.sbt s5 gx)
      have hlt5 : w9.heap.size < (w9.alloc (.cells #[.int .i64 k5, .slice A5 n5 c5] 24)).heap.size := by simp
      clear g9 oo s5 gx hzn z0 z1 z2 z3 T8 hb8
      go_wp2_with fail
      refine (T5.out _ A5 c5 hbx.out S5.out k5c k5m).mono ?_
      rintro e W1 ⟨rfl, h1⟩
      have hbw1 := Lib.hid (Nm.Nb hbx.out h1)
      have S6 := Lib.hid (Nm.sbt S5.out h1)
      have x0 := (h1.cell (p := ⟨w9.heap.size, 0, none⟩) hlt5).trans y0
      have x1 := (h1.cell (p := ⟨w9.heap.size, 1, none⟩) hlt5).trans y1
      clear h1 y0 y1 T5 S5 hbx
      go_wp2_with fail
      refine (V5c.out W1 A5 c5 hbw1.out S6.out).mono ?_
      rintro e W2 ⟨rfl, h2⟩
      have hbw2 := Lib.hid (Nm.Nb hbw1.out h2)
      clear h2 x0 x1
      go_wp2
      go_ret
      exact ⟨rfl, hbw2.out⟩
    | true =>
      rw [show Nm.te l tt = 0 from by unfold Nm.te; rw [if_pos hob]] at TB
      have heq := Nm.tx_eq hoa hob
      clear hoa hob hsc
      by_cases hr : k = l ∧ ss = tt
      · have hq := heq.2 hr
        rw [decide_eq_true hr.1, decide_eq_true hr.2] at SB
        simp only [Bool.and_self] at SB
        rw [← hq] at TB
        clear heq hr hq
        clear hfa hfb hs hs2 hp hx hx2 ha wi wi2 hn hmm hk hk2 hm hm2 h2000
        have HNA := Lib.hid HN0.out
        go_enter Tryd.func7, Tryd.ntmps7
        go_wp2_with fail
        refine (HD0.out _ HW.out).mono ?_
        rintro e w1 ⟨rfl, g1⟩
        have hb1 := Lib.hid (Nm.Nb HW.out g1)
        have T1 := Lib.hid (HT.out.bt g1)
        clear g1 HW HT
        obtain ⟨z0, z1, z2, z3, _⟩ := T1.out
        go_wp2_with fail
        refine (FA.out w1 hb1.out).mono ?_
        rintro e w2 ⟨rfl, g2⟩
        have hb2 := Lib.hid (Nm.Nb hb1.out g2)
        have T2 := Lib.hid (T1.out.bt g2)
        clear g2 z0 z1 z2 z3 T1 hb1
        obtain ⟨z0, z1, z2, z3, _⟩ := T2.out
        go_wp2_with fail
        refine (FB.out w2 hb2.out).mono ?_
        rintro e w3 ⟨rfl, g3⟩
        have hb3 := Lib.hid (Nm.Nb hb2.out g3)
        have T3 := Lib.hid (T2.out.bt g3)
        clear g3 z0 z1 z2 z3 T2 hb2
        obtain ⟨z0, z1, z2, z3, _⟩ := T3.out
        go_wp2_with fail
        refine (TA.out w3 hb3.out).mono ?_
        rintro e w4 ⟨rfl, g4⟩
        have hb4 := Lib.hid (Nm.Nb hb3.out g4)
        have T4 := Lib.hid (T3.out.bt g4)
        clear g4 z0 z1 z2 z3 T3 hb3
        obtain ⟨z0, z1, z2, z3, _⟩ := T4.out
        go_wp2_with fail
        refine (TB.out w4 hb4.out).mono ?_
        rintro e w5 ⟨rfl, g5⟩
        have hb5 := Lib.hid (Nm.Nb hb4.out g5)
        have T5 := Lib.hid (T4.out.bt g5)
        clear g5 z0 z1 z2 z3 T4 hb4
        obtain ⟨z0, z1, z2, z3, _⟩ := T5.out
        go_wp2_with fail
        refine (VA.out w5 hb5.out).mono ?_
        rintro e w6 ⟨rfl, g6⟩
        have hb6 := Lib.hid (Nm.Nb hb5.out g6)
        have T6 := Lib.hid (T5.out.bt g6)
        clear g6 z0 z1 z2 z3 T5 hb5
        obtain ⟨z0, z1, z2, z3, _⟩ := T6.out
        go_wp2_with fail
        refine (PA.out w6 hb6.out).mono ?_
        rintro e w7 ⟨zq, rfl, oq, g7⟩
        obtain ⟨A7, c7, rfl, s7, _, _⟩ := oq.form
        rw [HN0.out]
        have gx := Nm.al w7 (.cells #[.int .i64 k, .slice A7 n c7] 24)
        have hbx := Lib.hid (Nm.Nb (Nm.Nb hb6.out g7) gx)
        have T7 := Lib.hid ((T6.out.bt g7).bt gx)
        have hzn := heap_alloc_new w7 (.cells #[.int .i64 k, .slice A7 n c7] 24)
        have y0 : (w7.alloc (.cells #[.int .i64 k, .slice A7 n c7] 24)).cell? ⟨w7.heap.size, 0, none⟩ = some (.int .i64 k) := Nm.cell_h hzn 0
        have y1 : (w7.alloc (.cells #[.int .i64 k, .slice A7 n c7] 24)).cell? ⟨w7.heap.size, 1, none⟩ = some (.slice A7 n c7) := Nm.cell_h hzn 1
        have S7 := Lib.hid (Nm.sbt s7 gx)
        clear g7 oq s7 gx hzn z0 z1 z2 z3 T6 hb6 PA
        obtain ⟨z0, z1, z2, z3, _⟩ := T7.out
        go_wp2_with fail
        refine (SA.out A7 c7 _ hbx.out S7.out).mono ?_
        rintro e w8 ⟨rfl, g8⟩
        have hb8 := Lib.hid (Nm.Nb hbx.out g8)
        have T8 := Lib.hid (T7.out.bt g8)
        clear g8 z0 z1 z2 z3 y0 y1 T7 hbx SA S7
        obtain ⟨z0, z1, z2, z3, _⟩ := T8.out
        go_wp2_with fail
        refine (SB.out w8 hb8.out).mono ?_
        rintro e w9 ⟨rfl, g9⟩
        have hb9 := Lib.hid (Nm.Nb hb8.out g9)
        have T9 := Lib.hid (T8.out.bt g9)
        clear g9 z0 z1 z2 z3 T8 hb8
        obtain ⟨z0, z1, z2, z3, _⟩ := T9.out
        go_wp2_with fail
        refine (PT.out w9 hb9.out).mono ?_
        rintro e w10 ⟨zz, rfl, oo, g10⟩
        obtain ⟨A5, c5, rfl, s5, k5c, k5m⟩ := oo.form
        rw [HN5.out]
        rw [HN5.out] at k5c
        have gx := Nm.al w10 (.cells #[.int .i64 k5, .slice A5 n5 c5] 24)
        have hbx := Lib.hid (Nm.Nb (Nm.Nb hb9.out g10) gx)
        have hzn := heap_alloc_new w10 (.cells #[.int .i64 k5, .slice A5 n5 c5] 24)
        have y0 : (w10.alloc (.cells #[.int .i64 k5, .slice A5 n5 c5] 24)).cell? ⟨w10.heap.size, 0, none⟩ = some (.int .i64 k5) := Nm.cell_h hzn 0
        have y1 : (w10.alloc (.cells #[.int .i64 k5, .slice A5 n5 c5] 24)).cell? ⟨w10.heap.size, 1, none⟩ = some (.slice A5 n5 c5) := Nm.cell_h hzn 1
        have S5 := Lib.hid (Nm.sbt s5 gx)
        have hlt5 : w10.heap.size < (w10.alloc (.cells #[.int .i64 k5, .slice A5 n5 c5] 24)).heap.size := by simp
        clear g10 oo s5 gx hzn z0 z1 z2 z3 T9 hb9
        go_wp2_with fail
        refine (T5.out _ A5 c5 hbx.out S5.out k5c k5m).mono ?_
        rintro e W1 ⟨rfl, h1⟩
        have hbw1 := Lib.hid (Nm.Nb hbx.out h1)
        have S6 := Lib.hid (Nm.sbt S5.out h1)
        have x0 := (h1.cell (p := ⟨w10.heap.size, 0, none⟩) hlt5).trans y0
        have x1 := (h1.cell (p := ⟨w10.heap.size, 1, none⟩) hlt5).trans y1
        clear h1 y0 y1 T5 S5 hbx
        go_wp2_with fail
        refine (V5c.out W1 A5 c5 hbw1.out S6.out).mono ?_
        rintro e W2 ⟨rfl, h2⟩
        have hbw2 := Lib.hid (Nm.Nb hbw1.out h2)
        clear h2 x0 x1
        go_wp2
        go_ret
        exact ⟨rfl, hbw2.out⟩
      · have hq := Nm.eqB_false (fun e => hr (heq.1 e))
        rw [show (decide (k = l) && decide (ss = tt)) = false from by
          cases h1 : decide (k = l) with
          | false => rfl
          | true =>
            cases h2 : decide (ss = tt) with
            | false => rfl
            | true => exact absurd ⟨of_decide_eq_true h1, of_decide_eq_true h2⟩ hr] at SB
        clear heq hr
        clear hfa hfb hs hs2 hp hx hx2 ha wi wi2 hn hmm hk hk2 hm hm2 h2000
        have HNA := Lib.hid HN0.out
        generalize Nm.tx k ss = sa at *
        generalize Nm.tx l tt = sb at *
        go_enter Tryd.func7, Tryd.ntmps7
        go_wp2_with fail
        refine (HD0.out _ HW.out).mono ?_
        rintro e w1 ⟨rfl, g1⟩
        have hb1 := Lib.hid (Nm.Nb HW.out g1)
        have T1 := Lib.hid (HT.out.bt g1)
        clear g1 HW HT
        obtain ⟨z0, z1, z2, z3, _⟩ := T1.out
        go_wp2_with fail
        refine (FA.out w1 hb1.out).mono ?_
        rintro e w2 ⟨rfl, g2⟩
        have hb2 := Lib.hid (Nm.Nb hb1.out g2)
        have T2 := Lib.hid (T1.out.bt g2)
        clear g2 z0 z1 z2 z3 T1 hb1
        obtain ⟨z0, z1, z2, z3, _⟩ := T2.out
        go_wp2_with fail
        refine (FB.out w2 hb2.out).mono ?_
        rintro e w3 ⟨rfl, g3⟩
        have hb3 := Lib.hid (Nm.Nb hb2.out g3)
        have T3 := Lib.hid (T2.out.bt g3)
        clear g3 z0 z1 z2 z3 T2 hb2
        obtain ⟨z0, z1, z2, z3, _⟩ := T3.out
        go_wp2_with fail
        refine (TA.out w3 hb3.out).mono ?_
        rintro e w4 ⟨rfl, g4⟩
        have hb4 := Lib.hid (Nm.Nb hb3.out g4)
        have T4 := Lib.hid (T3.out.bt g4)
        clear g4 z0 z1 z2 z3 T3 hb3
        obtain ⟨z0, z1, z2, z3, _⟩ := T4.out
        go_wp2_with fail
        refine (TB.out w4 hb4.out).mono ?_
        rintro e w5 ⟨rfl, g5⟩
        have hb5 := Lib.hid (Nm.Nb hb4.out g5)
        have T5 := Lib.hid (T4.out.bt g5)
        clear g5 z0 z1 z2 z3 T4 hb4
        obtain ⟨z0, z1, z2, z3, _⟩ := T5.out
        go_wp2_with fail
        refine (VA.out w5 hb5.out).mono ?_
        rintro e w6 ⟨rfl, g6⟩
        have hb6 := Lib.hid (Nm.Nb hb5.out g6)
        have T6 := Lib.hid (T5.out.bt g6)
        clear g6 z0 z1 z2 z3 T5 hb5
        obtain ⟨z0, z1, z2, z3, _⟩ := T6.out
        go_wp2_with fail
        refine (PA.out w6 hb6.out).mono ?_
        rintro e w7 ⟨zq, rfl, oq, g7⟩
        obtain ⟨A7, c7, rfl, s7, _, _⟩ := oq.form
        rw [HN0.out]
        have gx := Nm.al w7 (.cells #[.int .i64 k, .slice A7 n c7] 24)
        have hbx := Lib.hid (Nm.Nb (Nm.Nb hb6.out g7) gx)
        have T7 := Lib.hid ((T6.out.bt g7).bt gx)
        have hzn := heap_alloc_new w7 (.cells #[.int .i64 k, .slice A7 n c7] 24)
        have y0 : (w7.alloc (.cells #[.int .i64 k, .slice A7 n c7] 24)).cell? ⟨w7.heap.size, 0, none⟩ = some (.int .i64 k) := Nm.cell_h hzn 0
        have y1 : (w7.alloc (.cells #[.int .i64 k, .slice A7 n c7] 24)).cell? ⟨w7.heap.size, 1, none⟩ = some (.slice A7 n c7) := Nm.cell_h hzn 1
        have S7 := Lib.hid (Nm.sbt s7 gx)
        clear g7 oq s7 gx hzn z0 z1 z2 z3 T6 hb6 PA
        obtain ⟨z0, z1, z2, z3, _⟩ := T7.out
        go_wp2_with fail
        refine (SA.out A7 c7 _ hbx.out S7.out).mono ?_
        rintro e w8 ⟨rfl, g8⟩
        have hb8 := Lib.hid (Nm.Nb hbx.out g8)
        have T8 := Lib.hid (T7.out.bt g8)
        clear g8 z0 z1 z2 z3 y0 y1 T7 hbx SA S7
        obtain ⟨z0, z1, z2, z3, _⟩ := T8.out
        go_wp2_with fail
        refine (SB.out w8 hb8.out).mono ?_
        rintro e w9 ⟨rfl, g9⟩
        have hb9 := Lib.hid (Nm.Nb hb8.out g9)
        have T9 := Lib.hid (T8.out.bt g9)
        clear g9 z0 z1 z2 z3 T8 hb8
        obtain ⟨z0, z1, z2, z3, _⟩ := T9.out
        go_wp2_with fail
        refine (PT.out w9 hb9.out).mono ?_
        rintro e w10 ⟨zz, rfl, oo, g10⟩
        obtain ⟨A5, c5, rfl, s5, k5c, k5m⟩ := oo.form
        rw [HN5.out]
        rw [HN5.out] at k5c
        have gx := Nm.al w10 (.cells #[.int .i64 k5, .slice A5 n5 c5] 24)
        have hbx := Lib.hid (Nm.Nb (Nm.Nb hb9.out g10) gx)
        have hzn := heap_alloc_new w10 (.cells #[.int .i64 k5, .slice A5 n5 c5] 24)
        have y0 : (w10.alloc (.cells #[.int .i64 k5, .slice A5 n5 c5] 24)).cell? ⟨w10.heap.size, 0, none⟩ = some (.int .i64 k5) := Nm.cell_h hzn 0
        have y1 : (w10.alloc (.cells #[.int .i64 k5, .slice A5 n5 c5] 24)).cell? ⟨w10.heap.size, 1, none⟩ = some (.slice A5 n5 c5) := Nm.cell_h hzn 1
        have S5 := Lib.hid (Nm.sbt s5 gx)
        have hlt5 : w10.heap.size < (w10.alloc (.cells #[.int .i64 k5, .slice A5 n5 c5] 24)).heap.size := by simp
        clear g10 oo s5 gx hzn z0 z1 z2 z3 T9 hb9
        go_wp2_with fail
        refine (T5.out _ A5 c5 hbx.out S5.out k5c k5m).mono ?_
        rintro e W1 ⟨rfl, h1⟩
        have hbw1 := Lib.hid (Nm.Nb hbx.out h1)
        have S6 := Lib.hid (Nm.sbt S5.out h1)
        have x0 := (h1.cell (p := ⟨w10.heap.size, 0, none⟩) hlt5).trans y0
        have x1 := (h1.cell (p := ⟨w10.heap.size, 1, none⟩) hlt5).trans y1
        clear h1 y0 y1 T5 S5 hbx
        go_wp2_with fail
        refine (V5c.out W1 A5 c5 hbw1.out S6.out).mono ?_
        rintro e W2 ⟨rfl, h2⟩
        have hbw2 := Lib.hid (Nm.Nb hbw1.out h2)
        clear h2 x0 x1
        go_wp2
        go_ret
        exact ⟨rfl, hbw2.out⟩
  · obtain ⟨he, hs0, hw0, hge, hle⟩ := hB
    have PT0 := P0.out
    unfold Nm.PPost at PT0
    rw [hs0, hw0] at PT0
    obtain ⟨pe, hpe⟩ : ∃ pe, (Nm.parse a.data.toList).e = pe := ⟨_, rfl⟩
    obtain ⟨pa, hpa⟩ : ∃ pa, (Nm.parse a.data.toList).a = pa := ⟨_, rfl⟩
    rw [hpe] at PT0 he
    rw [hpa] at PT0 hge hle
    have PT : Hid (∀ v, Below w.heap.size w v → Calls Tryd.prog 20 #[.string a] v fun e w' => ∃ z, e = .returned (.tuple #[.agg #[.int .i64 0, z], .int .i64 pe, .int .i64 pa]) ∧ OwnS w' v.heap.size z [] ∧ Below v.heap.size v w') := Lib.hid (fun v hv => by have h9 := PT0 v hv; simpa using h9)
    have HN5 : Hid (([] : List ByteArray).length = 0) := Lib.hid rfl
    have hpe2 : (pe == 0) = false := by simpa using he
    have hd1 : decide ((-1 : Int) ≤ pa) = true := decide_eq_true hge
    have hd2 : decide (pa ≤ (a.size : Int)) = true := decide_eq_true (by omega)
    have hd3 : (-1 : Int) ≤ pa := hge
    have hd4 : pa ≤ (a.size : Int) := by omega
    clear PT0 P0 hs0 hw0 hpe hpa he hge hle hlen
    cases hoa : Nm.okT k ss with
    | false =>
      rw [show Nm.te k ss = 1 from by unfold Nm.te; rw [if_neg (by rw [hoa]; decide)], show Nm.tx k ss = ⟨#[]⟩ from by unfold Nm.tx; rw [if_neg (by rw [hoa]; decide)]] at TA
      rw [hoa] at VA
      clear hoa
      clear hfa hfb hs hs2 hp hx hx2 ha wi wi2 hn hmm hk hk2 hm hm2 h2000
      go_enter Tryd.func7, Tryd.ntmps7
      go_wp2_with fail
      refine (HD0.out _ HW.out).mono ?_
      rintro e w1 ⟨rfl, g1⟩
      have hb1 := Lib.hid (Nm.Nb HW.out g1)
      have T1 := Lib.hid (HT.out.bt g1)
      clear g1 HW HT
      obtain ⟨z0, z1, z2, z3, _⟩ := T1.out
      go_wp2_with fail
      refine (FA.out w1 hb1.out).mono ?_
      rintro e w2 ⟨rfl, g2⟩
      have hb2 := Lib.hid (Nm.Nb hb1.out g2)
      have T2 := Lib.hid (T1.out.bt g2)
      clear g2 z0 z1 z2 z3 T1 hb1
      obtain ⟨z0, z1, z2, z3, _⟩ := T2.out
      go_wp2_with fail
      refine (FB.out w2 hb2.out).mono ?_
      rintro e w3 ⟨rfl, g3⟩
      have hb3 := Lib.hid (Nm.Nb hb2.out g3)
      have T3 := Lib.hid (T2.out.bt g3)
      clear g3 z0 z1 z2 z3 T2 hb2
      obtain ⟨z0, z1, z2, z3, _⟩ := T3.out
      go_wp2_with fail
      refine (TA.out w3 hb3.out).mono ?_
      rintro e w4 ⟨rfl, g4⟩
      have hb4 := Lib.hid (Nm.Nb hb3.out g4)
      have T4 := Lib.hid (T3.out.bt g4)
      clear g4 z0 z1 z2 z3 T3 hb3
      obtain ⟨z0, z1, z2, z3, _⟩ := T4.out
      go_wp2_with fail
      refine (TB.out w4 hb4.out).mono ?_
      rintro e w5 ⟨rfl, g5⟩
      have hb5 := Lib.hid (Nm.Nb hb4.out g5)
      have T5 := Lib.hid (T4.out.bt g5)
      clear g5 z0 z1 z2 z3 T4 hb4
      obtain ⟨z0, z1, z2, z3, _⟩ := T5.out
      go_wp2_with fail
      refine (VA.out w5 hb5.out).mono ?_
      rintro e w6 ⟨rfl, g6⟩
      have hb6 := Lib.hid (Nm.Nb hb5.out g6)
      have T6 := Lib.hid (T5.out.bt g6)
      clear g6 z0 z1 z2 z3 T5 hb5
      obtain ⟨z0, z1, z2, z3, _⟩ := T6.out
      go_wp2_with fail
      refine (PT.out w6 hb6.out).mono ?_
      rintro e w7 ⟨zz, rfl, oo, g7⟩
      obtain ⟨A5, c5, rfl, s5, k5c, k5m⟩ := oo.form
      rw [HN5.out]
      rw [HN5.out] at k5c
      have gx := Nm.al w7 (.cells #[.int .i64 0, .slice A5 0 c5] 24)
      have hbx := Lib.hid (Nm.Nb (Nm.Nb hb6.out g7) gx)
      have hzn := heap_alloc_new w7 (.cells #[.int .i64 0, .slice A5 0 c5] 24)
      have y0 : (w7.alloc (.cells #[.int .i64 0, .slice A5 0 c5] 24)).cell? ⟨w7.heap.size, 0, none⟩ = some (.int .i64 0) := Nm.cell_h hzn 0
      have y1 : (w7.alloc (.cells #[.int .i64 0, .slice A5 0 c5] 24)).cell? ⟨w7.heap.size, 1, none⟩ = some (.slice A5 0 c5) := Nm.cell_h hzn 1
      have S5 := Lib.hid (Nm.sbt s5 gx)
      have hlt5 : w7.heap.size < (w7.alloc (.cells #[.int .i64 0, .slice A5 0 c5] 24)).heap.size := by simp
      clear g7 oo s5 gx hzn z0 z1 z2 z3 T6 hb6
      go_wp2
      go_ret
      exact ⟨rfl, hbx.out⟩
    | true =>
    rw [show Nm.te k ss = 0 from by unfold Nm.te; rw [if_pos hoa]] at TA
    have hsc := (Nm.okT_sc hoa).2.2
    have PA : Hid (∀ v, Below w.heap.size w v → Calls Tryd.prog 20 #[.string (Nm.tx k ss)] v fun e w' => ∃ z, e = .returned (.tuple #[.agg #[.int .i64 k, z], .int .i64 0, .int .i64 0]) ∧ OwnS w' v.heap.size z ss ∧ Below v.heap.size v w') := Lib.hid (fun v hv => by
      have h1 := Nm.parse_any (Nm.tx k ss) v (by have := Nm.tx_size hoa; unfold maxLen; omega) (hp.bt hv)
      rw [Nm.tx_parse hoa] at h1
      unfold Nm.PPost at h1
      simp only [Nm.bt_wl] at h1
      rwa [← hsc] at h1)
    have SA := Lib.hid (fun (C : Option Addr) (e : Nat) v (hv : Below w.heap.size w v) (h1 : Strs v v.heap.size C ss) => Nm.same_n k C e ss n k A c ss n hn hn (by omega) (by omega) v h1 (Nm.sbt hs hv))
    simp only [decide_true, Bool.and_self] at SA
    have SB := Lib.hid (fun v (hv : Below w.heap.size w v) => Nm.same_n k A c ss n l B d tt m hn hmm (by omega) (by omega) v (Nm.sbt hs hv) (Nm.sbt hs2 hv))
    rw [hoa] at VA
    cases hob : Nm.okT l tt with
    | false =>
      rw [show Nm.te l tt = 1 from by unfold Nm.te; rw [if_neg (by rw [hob]; decide)]] at TB
      clear hoa hob hsc SB
      clear hfa hfb hs hs2 hp hx hx2 ha wi wi2 hn hmm hk hk2 hm hm2 h2000
      have HNA := Lib.hid HN0.out
      go_enter Tryd.func7, Tryd.ntmps7
      go_wp2_with fail
      refine (HD0.out _ HW.out).mono ?_
      rintro e w1 ⟨rfl, g1⟩
      have hb1 := Lib.hid (Nm.Nb HW.out g1)
      have T1 := Lib.hid (HT.out.bt g1)
      clear g1 HW HT
      obtain ⟨z0, z1, z2, z3, _⟩ := T1.out
      go_wp2_with fail
      refine (FA.out w1 hb1.out).mono ?_
      rintro e w2 ⟨rfl, g2⟩
      have hb2 := Lib.hid (Nm.Nb hb1.out g2)
      have T2 := Lib.hid (T1.out.bt g2)
      clear g2 z0 z1 z2 z3 T1 hb1
      obtain ⟨z0, z1, z2, z3, _⟩ := T2.out
      go_wp2_with fail
      refine (FB.out w2 hb2.out).mono ?_
      rintro e w3 ⟨rfl, g3⟩
      have hb3 := Lib.hid (Nm.Nb hb2.out g3)
      have T3 := Lib.hid (T2.out.bt g3)
      clear g3 z0 z1 z2 z3 T2 hb2
      obtain ⟨z0, z1, z2, z3, _⟩ := T3.out
      go_wp2_with fail
      refine (TA.out w3 hb3.out).mono ?_
      rintro e w4 ⟨rfl, g4⟩
      have hb4 := Lib.hid (Nm.Nb hb3.out g4)
      have T4 := Lib.hid (T3.out.bt g4)
      clear g4 z0 z1 z2 z3 T3 hb3
      obtain ⟨z0, z1, z2, z3, _⟩ := T4.out
      go_wp2_with fail
      refine (TB.out w4 hb4.out).mono ?_
      rintro e w5 ⟨rfl, g5⟩
      have hb5 := Lib.hid (Nm.Nb hb4.out g5)
      have T5 := Lib.hid (T4.out.bt g5)
      clear g5 z0 z1 z2 z3 T4 hb4
      obtain ⟨z0, z1, z2, z3, _⟩ := T5.out
      go_wp2_with fail
      refine (VA.out w5 hb5.out).mono ?_
      rintro e w6 ⟨rfl, g6⟩
      have hb6 := Lib.hid (Nm.Nb hb5.out g6)
      have T6 := Lib.hid (T5.out.bt g6)
      clear g6 z0 z1 z2 z3 T5 hb5
      obtain ⟨z0, z1, z2, z3, _⟩ := T6.out
      go_wp2_with fail
      refine (PA.out w6 hb6.out).mono ?_
      rintro e w7 ⟨zq, rfl, oq, g7⟩
      obtain ⟨A7, c7, rfl, s7, _, _⟩ := oq.form
      rw [HN0.out]
      have gx := Nm.al w7 (.cells #[.int .i64 k, .slice A7 n c7] 24)
      have hbx := Lib.hid (Nm.Nb (Nm.Nb hb6.out g7) gx)
      have T7 := Lib.hid ((T6.out.bt g7).bt gx)
      have hzn := heap_alloc_new w7 (.cells #[.int .i64 k, .slice A7 n c7] 24)
      have y0 : (w7.alloc (.cells #[.int .i64 k, .slice A7 n c7] 24)).cell? ⟨w7.heap.size, 0, none⟩ = some (.int .i64 k) := Nm.cell_h hzn 0
      have y1 : (w7.alloc (.cells #[.int .i64 k, .slice A7 n c7] 24)).cell? ⟨w7.heap.size, 1, none⟩ = some (.slice A7 n c7) := Nm.cell_h hzn 1
      have S7 := Lib.hid (Nm.sbt s7 gx)
      clear g7 oq s7 gx hzn z0 z1 z2 z3 T6 hb6 PA
      obtain ⟨z0, z1, z2, z3, _⟩ := T7.out
      go_wp2_with fail
      refine (SA.out A7 c7 _ hbx.out S7.out).mono ?_
      rintro e w8 ⟨rfl, g8⟩
      have hb8 := Lib.hid (Nm.Nb hbx.out g8)
      have T8 := Lib.hid (T7.out.bt g8)
      clear g8 z0 z1 z2 z3 y0 y1 T7 hbx SA S7
      obtain ⟨z0, z1, z2, z3, _⟩ := T8.out
      go_wp2_with fail
      refine (PT.out w8 hb8.out).mono ?_
      rintro e w9 ⟨zz, rfl, oo, g9⟩
      obtain ⟨A5, c5, rfl, s5, k5c, k5m⟩ := oo.form
      rw [HN5.out]
      rw [HN5.out] at k5c
      have gx := Nm.al w9 (.cells #[.int .i64 0, .slice A5 0 c5] 24)
      have hbx := Lib.hid (Nm.Nb (Nm.Nb hb8.out g9) gx)
      have hzn := heap_alloc_new w9 (.cells #[.int .i64 0, .slice A5 0 c5] 24)
      have y0 : (w9.alloc (.cells #[.int .i64 0, .slice A5 0 c5] 24)).cell? ⟨w9.heap.size, 0, none⟩ = some (.int .i64 0) := Nm.cell_h hzn 0
      have y1 : (w9.alloc (.cells #[.int .i64 0, .slice A5 0 c5] 24)).cell? ⟨w9.heap.size, 1, none⟩ = some (.slice A5 0 c5) := Nm.cell_h hzn 1
      have S5 := Lib.hid (Nm.sbt s5 gx)
      have hlt5 : w9.heap.size < (w9.alloc (.cells #[.int .i64 0, .slice A5 0 c5] 24)).heap.size := by simp
      clear g9 oo s5 gx hzn z0 z1 z2 z3 T8 hb8
      go_wp2
      go_ret
      exact ⟨rfl, hbx.out⟩
    | true =>
      rw [show Nm.te l tt = 0 from by unfold Nm.te; rw [if_pos hob]] at TB
      have heq := Nm.tx_eq hoa hob
      clear hoa hob hsc
      by_cases hr : k = l ∧ ss = tt
      · have hq := heq.2 hr
        rw [decide_eq_true hr.1, decide_eq_true hr.2] at SB
        simp only [Bool.and_self] at SB
        rw [← hq] at TB
        clear heq hr hq
        clear hfa hfb hs hs2 hp hx hx2 ha wi wi2 hn hmm hk hk2 hm hm2 h2000
        have HNA := Lib.hid HN0.out
        go_enter Tryd.func7, Tryd.ntmps7
        go_wp2_with fail
        refine (HD0.out _ HW.out).mono ?_
        rintro e w1 ⟨rfl, g1⟩
        have hb1 := Lib.hid (Nm.Nb HW.out g1)
        have T1 := Lib.hid (HT.out.bt g1)
        clear g1 HW HT
        obtain ⟨z0, z1, z2, z3, _⟩ := T1.out
        go_wp2_with fail
        refine (FA.out w1 hb1.out).mono ?_
        rintro e w2 ⟨rfl, g2⟩
        have hb2 := Lib.hid (Nm.Nb hb1.out g2)
        have T2 := Lib.hid (T1.out.bt g2)
        clear g2 z0 z1 z2 z3 T1 hb1
        obtain ⟨z0, z1, z2, z3, _⟩ := T2.out
        go_wp2_with fail
        refine (FB.out w2 hb2.out).mono ?_
        rintro e w3 ⟨rfl, g3⟩
        have hb3 := Lib.hid (Nm.Nb hb2.out g3)
        have T3 := Lib.hid (T2.out.bt g3)
        clear g3 z0 z1 z2 z3 T2 hb2
        obtain ⟨z0, z1, z2, z3, _⟩ := T3.out
        go_wp2_with fail
        refine (TA.out w3 hb3.out).mono ?_
        rintro e w4 ⟨rfl, g4⟩
        have hb4 := Lib.hid (Nm.Nb hb3.out g4)
        have T4 := Lib.hid (T3.out.bt g4)
        clear g4 z0 z1 z2 z3 T3 hb3
        obtain ⟨z0, z1, z2, z3, _⟩ := T4.out
        go_wp2_with fail
        refine (TB.out w4 hb4.out).mono ?_
        rintro e w5 ⟨rfl, g5⟩
        have hb5 := Lib.hid (Nm.Nb hb4.out g5)
        have T5 := Lib.hid (T4.out.bt g5)
        clear g5 z0 z1 z2 z3 T4 hb4
        obtain ⟨z0, z1, z2, z3, _⟩ := T5.out
        go_wp2_with fail
        refine (VA.out w5 hb5.out).mono ?_
        rintro e w6 ⟨rfl, g6⟩
        have hb6 := Lib.hid (Nm.Nb hb5.out g6)
        have T6 := Lib.hid (T5.out.bt g6)
        clear g6 z0 z1 z2 z3 T5 hb5
        obtain ⟨z0, z1, z2, z3, _⟩ := T6.out
        go_wp2_with fail
        refine (PA.out w6 hb6.out).mono ?_
        rintro e w7 ⟨zq, rfl, oq, g7⟩
        obtain ⟨A7, c7, rfl, s7, _, _⟩ := oq.form
        rw [HN0.out]
        have gx := Nm.al w7 (.cells #[.int .i64 k, .slice A7 n c7] 24)
        have hbx := Lib.hid (Nm.Nb (Nm.Nb hb6.out g7) gx)
        have T7 := Lib.hid ((T6.out.bt g7).bt gx)
        have hzn := heap_alloc_new w7 (.cells #[.int .i64 k, .slice A7 n c7] 24)
        have y0 : (w7.alloc (.cells #[.int .i64 k, .slice A7 n c7] 24)).cell? ⟨w7.heap.size, 0, none⟩ = some (.int .i64 k) := Nm.cell_h hzn 0
        have y1 : (w7.alloc (.cells #[.int .i64 k, .slice A7 n c7] 24)).cell? ⟨w7.heap.size, 1, none⟩ = some (.slice A7 n c7) := Nm.cell_h hzn 1
        have S7 := Lib.hid (Nm.sbt s7 gx)
        clear g7 oq s7 gx hzn z0 z1 z2 z3 T6 hb6 PA
        obtain ⟨z0, z1, z2, z3, _⟩ := T7.out
        go_wp2_with fail
        refine (SA.out A7 c7 _ hbx.out S7.out).mono ?_
        rintro e w8 ⟨rfl, g8⟩
        have hb8 := Lib.hid (Nm.Nb hbx.out g8)
        have T8 := Lib.hid (T7.out.bt g8)
        clear g8 z0 z1 z2 z3 y0 y1 T7 hbx SA S7
        obtain ⟨z0, z1, z2, z3, _⟩ := T8.out
        go_wp2_with fail
        refine (SB.out w8 hb8.out).mono ?_
        rintro e w9 ⟨rfl, g9⟩
        have hb9 := Lib.hid (Nm.Nb hb8.out g9)
        have T9 := Lib.hid (T8.out.bt g9)
        clear g9 z0 z1 z2 z3 T8 hb8
        obtain ⟨z0, z1, z2, z3, _⟩ := T9.out
        go_wp2_with fail
        refine (PT.out w9 hb9.out).mono ?_
        rintro e w10 ⟨zz, rfl, oo, g10⟩
        obtain ⟨A5, c5, rfl, s5, k5c, k5m⟩ := oo.form
        rw [HN5.out]
        rw [HN5.out] at k5c
        have gx := Nm.al w10 (.cells #[.int .i64 0, .slice A5 0 c5] 24)
        have hbx := Lib.hid (Nm.Nb (Nm.Nb hb9.out g10) gx)
        have hzn := heap_alloc_new w10 (.cells #[.int .i64 0, .slice A5 0 c5] 24)
        have y0 : (w10.alloc (.cells #[.int .i64 0, .slice A5 0 c5] 24)).cell? ⟨w10.heap.size, 0, none⟩ = some (.int .i64 0) := Nm.cell_h hzn 0
        have y1 : (w10.alloc (.cells #[.int .i64 0, .slice A5 0 c5] 24)).cell? ⟨w10.heap.size, 1, none⟩ = some (.slice A5 0 c5) := Nm.cell_h hzn 1
        have S5 := Lib.hid (Nm.sbt s5 gx)
        have hlt5 : w10.heap.size < (w10.alloc (.cells #[.int .i64 0, .slice A5 0 c5] 24)).heap.size := by simp
        clear g10 oo s5 gx hzn z0 z1 z2 z3 T9 hb9
        go_wp2
        go_ret
        exact ⟨rfl, hbx.out⟩
      · have hq := Nm.eqB_false (fun e => hr (heq.1 e))
        rw [show (decide (k = l) && decide (ss = tt)) = false from by
          cases h1 : decide (k = l) with
          | false => rfl
          | true =>
            cases h2 : decide (ss = tt) with
            | false => rfl
            | true => exact absurd ⟨of_decide_eq_true h1, of_decide_eq_true h2⟩ hr] at SB
        clear heq hr
        clear hfa hfb hs hs2 hp hx hx2 ha wi wi2 hn hmm hk hk2 hm hm2 h2000
        have HNA := Lib.hid HN0.out
        generalize Nm.tx k ss = sa at *
        generalize Nm.tx l tt = sb at *
        go_enter Tryd.func7, Tryd.ntmps7
        go_wp2_with fail
        refine (HD0.out _ HW.out).mono ?_
        rintro e w1 ⟨rfl, g1⟩
        have hb1 := Lib.hid (Nm.Nb HW.out g1)
        have T1 := Lib.hid (HT.out.bt g1)
        clear g1 HW HT
        obtain ⟨z0, z1, z2, z3, _⟩ := T1.out
        go_wp2_with fail
        refine (FA.out w1 hb1.out).mono ?_
        rintro e w2 ⟨rfl, g2⟩
        have hb2 := Lib.hid (Nm.Nb hb1.out g2)
        have T2 := Lib.hid (T1.out.bt g2)
        clear g2 z0 z1 z2 z3 T1 hb1
        obtain ⟨z0, z1, z2, z3, _⟩ := T2.out
        go_wp2_with fail
        refine (FB.out w2 hb2.out).mono ?_
        rintro e w3 ⟨rfl, g3⟩
        have hb3 := Lib.hid (Nm.Nb hb2.out g3)
        have T3 := Lib.hid (T2.out.bt g3)
        clear g3 z0 z1 z2 z3 T2 hb2
        obtain ⟨z0, z1, z2, z3, _⟩ := T3.out
        go_wp2_with fail
        refine (TA.out w3 hb3.out).mono ?_
        rintro e w4 ⟨rfl, g4⟩
        have hb4 := Lib.hid (Nm.Nb hb3.out g4)
        have T4 := Lib.hid (T3.out.bt g4)
        clear g4 z0 z1 z2 z3 T3 hb3
        obtain ⟨z0, z1, z2, z3, _⟩ := T4.out
        go_wp2_with fail
        refine (TB.out w4 hb4.out).mono ?_
        rintro e w5 ⟨rfl, g5⟩
        have hb5 := Lib.hid (Nm.Nb hb4.out g5)
        have T5 := Lib.hid (T4.out.bt g5)
        clear g5 z0 z1 z2 z3 T4 hb4
        obtain ⟨z0, z1, z2, z3, _⟩ := T5.out
        go_wp2_with fail
        refine (VA.out w5 hb5.out).mono ?_
        rintro e w6 ⟨rfl, g6⟩
        have hb6 := Lib.hid (Nm.Nb hb5.out g6)
        have T6 := Lib.hid (T5.out.bt g6)
        clear g6 z0 z1 z2 z3 T5 hb5
        obtain ⟨z0, z1, z2, z3, _⟩ := T6.out
        go_wp2_with fail
        refine (PA.out w6 hb6.out).mono ?_
        rintro e w7 ⟨zq, rfl, oq, g7⟩
        obtain ⟨A7, c7, rfl, s7, _, _⟩ := oq.form
        rw [HN0.out]
        have gx := Nm.al w7 (.cells #[.int .i64 k, .slice A7 n c7] 24)
        have hbx := Lib.hid (Nm.Nb (Nm.Nb hb6.out g7) gx)
        have T7 := Lib.hid ((T6.out.bt g7).bt gx)
        have hzn := heap_alloc_new w7 (.cells #[.int .i64 k, .slice A7 n c7] 24)
        have y0 : (w7.alloc (.cells #[.int .i64 k, .slice A7 n c7] 24)).cell? ⟨w7.heap.size, 0, none⟩ = some (.int .i64 k) := Nm.cell_h hzn 0
        have y1 : (w7.alloc (.cells #[.int .i64 k, .slice A7 n c7] 24)).cell? ⟨w7.heap.size, 1, none⟩ = some (.slice A7 n c7) := Nm.cell_h hzn 1
        have S7 := Lib.hid (Nm.sbt s7 gx)
        clear g7 oq s7 gx hzn z0 z1 z2 z3 T6 hb6 PA
        obtain ⟨z0, z1, z2, z3, _⟩ := T7.out
        go_wp2_with fail
        refine (SA.out A7 c7 _ hbx.out S7.out).mono ?_
        rintro e w8 ⟨rfl, g8⟩
        have hb8 := Lib.hid (Nm.Nb hbx.out g8)
        have T8 := Lib.hid (T7.out.bt g8)
        clear g8 z0 z1 z2 z3 y0 y1 T7 hbx SA S7
        obtain ⟨z0, z1, z2, z3, _⟩ := T8.out
        go_wp2_with fail
        refine (SB.out w8 hb8.out).mono ?_
        rintro e w9 ⟨rfl, g9⟩
        have hb9 := Lib.hid (Nm.Nb hb8.out g9)
        have T9 := Lib.hid (T8.out.bt g9)
        clear g9 z0 z1 z2 z3 T8 hb8
        obtain ⟨z0, z1, z2, z3, _⟩ := T9.out
        go_wp2_with fail
        refine (PT.out w9 hb9.out).mono ?_
        rintro e w10 ⟨zz, rfl, oo, g10⟩
        obtain ⟨A5, c5, rfl, s5, k5c, k5m⟩ := oo.form
        rw [HN5.out]
        rw [HN5.out] at k5c
        have gx := Nm.al w10 (.cells #[.int .i64 0, .slice A5 0 c5] 24)
        have hbx := Lib.hid (Nm.Nb (Nm.Nb hb9.out g10) gx)
        have hzn := heap_alloc_new w10 (.cells #[.int .i64 0, .slice A5 0 c5] 24)
        have y0 : (w10.alloc (.cells #[.int .i64 0, .slice A5 0 c5] 24)).cell? ⟨w10.heap.size, 0, none⟩ = some (.int .i64 0) := Nm.cell_h hzn 0
        have y1 : (w10.alloc (.cells #[.int .i64 0, .slice A5 0 c5] 24)).cell? ⟨w10.heap.size, 1, none⟩ = some (.slice A5 0 c5) := Nm.cell_h hzn 1
        have S5 := Lib.hid (Nm.sbt s5 gx)
        have hlt5 : w10.heap.size < (w10.alloc (.cells #[.int .i64 0, .slice A5 0 c5] 24)).heap.size := by simp
        clear g10 oo s5 gx hzn z0 z1 z2 z3 T9 hb9
        go_wp2
        go_ret
        exact ⟨rfl, hbx.out⟩
end Go.Proofs.YthedfglaaignoaaDoor
