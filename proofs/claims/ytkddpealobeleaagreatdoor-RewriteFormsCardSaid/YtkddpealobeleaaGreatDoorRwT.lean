/- Layer 10: the lines of a table's text. -/
import Derived.Test.YtkddpealobeleaaGreatDoorRwE
import Derived.Lib.QuietBelow
import Derived.Shelf.Strconv.Itoa3
import Derived.Lib.ItoaNum
set_option linter.unusedSimpArgs false
set_option linter.unusedVariables false
namespace Go.Proofs.YtkddpealobeleaaGreatDoor
open Go.RowKit Go.Shelf Go.Sort
set_option maxRecDepth 100000
set_option maxHeartbeats 4000000
/-- The words of the scripts lie below block B. -/
structure Rw.Sw (B : Nat) (w : World) : Prop where
  g : ∀ s, s < 5 → w.cell? ⟨0, s, none⟩ = some (.string (Nm.bt (Nm.word s)))
  lt : 0 < B
theorem Rw.Sw.bt {w w' : World} (h : Rw.Sw w.heap.size w) (hb : Below w.heap.size w w') : Rw.Sw w'.heap.size w' := ⟨fun s hs => Nm.cell_bt (h.g s hs) hb, Nat.lt_of_lt_of_le h.lt hb.size⟩
/-- The powers of ten. -/
def Rw.Pw (w : World) : Prop := Lib.TabIs Tryz.prog w "internal/strconv.uint64pow10" .u64 Lib.pow10Tab
theorem Rw.gPow : Tryz.prog.globalNamed "internal/strconv.uint64pow10" = some 6 := by kernel_rfl
theorem Rw.itoa_any (n : Int) (h0 : 0 ≤ n) (h1 : n ≤ 1000) (w : World) (hp : Rw.Pw w) : Calls Tryz.prog 92 #[.int .i64 n] w fun e w' => e = .returned (.string (Nm.bt (Lib.itoa n))) ∧ Below w.heap.size w w' := by
  refine (Tryz.strconv_Itoa n (by omega) (by omega) w hp).mono ?_
  rintro e w' ⟨rfl, k, os, rfl⟩
  refine ⟨rfl, rfl, rfl, rfl, by simp [grow, World.drewN], fun i hi => ?_⟩
  simp [grow, World.drewN, Array.getElem?_append, hi]
theorem Rw.nd_le : ∀ (k u : Nat), u < 10 ^ (k + 1) → Lib.nDigits u ≤ k + 1
  | 0, u, h => by rw [Lib.nDigits_small (by omega)]; omega
  | k + 1, u, h => by
    by_cases hu : u < 10
    · rw [Lib.nDigits_small hu]; omega
    · rw [Lib.nDigits_big hu]
      have := Rw.nd_le k (u / 10) (by rw [Nat.pow_succ] at h; omega)
      omega
theorem dec_lengthR (u : Nat) (h : u < 18446744073709551616) : (Lib.decDigits u).length ≤ 20 := by
  rw [Lib.decDigits_length]
  exact Rw.nd_le 19 u (by omega)
theorem Rw.k_sc {k : Int} (h : 1 ≤ Nm.sc k) : k = (Nm.sc k : Int) := by
  unfold Nm.sc at h ⊢
  split
  · omega
  · rename_i hn
    rw [if_neg hn] at h
    omega
theorem Rw.itoa_size {c : Int} (h0 : 0 ≤ c) (h1 : c ≤ 1000) : (Nm.bt (Lib.itoa c)).size ≤ 20 := by
  obtain ⟨n, rfl⟩ : ∃ n : Nat, c = (n : Int) := ⟨c.toNat, by omega⟩
  rw [Lib.size_eq, Nm.bt_list]
  have : Lib.itoa (n : Int) = Lib.decDigits n := by
    unfold Lib.itoa
    rw [if_neg (by omega)]
    simp
  rw [this]
  have := dec_lengthR n (by omega)
  omega
theorem Rw.word_size (s : Nat) (hs : s < 5) : (Nm.bt (Nm.word s)).size ≤ 6 := by
  have : s = 0 ∨ s = 1 ∨ s = 2 ∨ s = 3 ∨ s = 4 := by omega
  rcases this with rfl | rfl | rfl | rfl | rfl <;> decide
theorem Rw.quo_size (f : ByteArray) (n : Nat) (h : f.size ≤ n) : (Nm.bt (34 :: f.data.toList ++ [34])).size ≤ n + 2 := by
  have := Lib.size_eq f
  rw [Lib.size_eq, Nm.bt_list]
  simp only [List.cons_append, List.length_cons, List.length_append, List.length_nil]
  omega
theorem Rw.app_list (a b : ByteArray) : (a ++ b).data.toList = a.data.toList ++ b.data.toList := by simp
/-- A rule's line. -/
def Rw.ruleL (x : Rw.Rl) : Nm.T := [114, 117, 108, 101, 32] ++ Nm.word (Nm.sc x.k) ++ [32] ++ (34 :: x.frm.data.toList ++ [34]) ++ [32] ++ [116, 111] ++ [32] ++ (34 :: x.to.data.toList ++ [34]) ++ [32] ++ [99, 111, 115, 116] ++ [32] ++ Lib.itoa x.cost ++ [59] ++ [10]
/-- The line of a drop or an end. -/
def Rw.dropL (b : Nm.T) (x : Rw.Dp) : Nm.T := b ++ [32] ++ Nm.word (Nm.sc x.k) ++ [32] ++ (34 :: x.word.data.toList ++ [34]) ++ [32] ++ Lib.itoa x.cost ++ [59] ++ [10]
/-- The last line. -/
def Rw.costsL (d o i : Int) : Nm.T := [99, 111, 115, 116, 115, 32] ++ Lib.itoa d ++ [32] ++ Lib.itoa o ++ [32] ++ Lib.itoa i ++ [59] ++ [10]
theorem Rw.ruleLine_any (x : Rw.Rl) (hs : 1 ≤ Nm.sc x.k) (hf : x.frm.size ≤ 100) (ht : x.to.size ≤ 100) (h0 : 0 ≤ x.cost) (h1 : x.cost ≤ 1000) (w : World) (hS : Rw.Sw w.heap.size w) (hP : ∀ v, Below w.heap.size w v → Rw.Pw v) :
    Calls Tryz.prog 53 #[x.val] w fun e w' => e = .returned (.string (Nm.bt (Rw.ruleL x))) ∧ Below w.heap.size w w' := by
  have hs5 := Nm.sc_lt x.k
  have hk := Rw.k_sc hs
  obtain ⟨k, f, t, c⟩ := x
  simp only at hk hf ht h0 h1 hs hs5
  unfold Rw.ruleL
  simp only
  obtain ⟨s, hsk⟩ : ∃ s, Nm.sc k = s := ⟨_, rfl⟩
  rw [hsk] at hk hs hs5 ⊢
  subst hk
  clear hsk
  have hwl := Rw.word_size s hs5
  have hil := Rw.itoa_size h0 h1
  have Q1 := Lib.hid (fun v => Rw.quoted_any f v (by omega))
  have Q2 := Lib.hid (fun v => Rw.quoted_any t v (by omega))
  have I1 := Lib.hid (fun v (hv : Below w.heap.size w v) => Rw.itoa_any c h0 h1 v (hP v hv))
  have hq1 := Rw.quo_size f 100 hf
  have hq2 := Rw.quo_size t 100 ht
  obtain ⟨F, hF⟩ : ∃ F, Nm.bt (34 :: f.data.toList ++ [34]) = F := ⟨_, rfl⟩
  obtain ⟨G, hG⟩ : ∃ G, Nm.bt (34 :: t.data.toList ++ [34]) = G := ⟨_, rfl⟩
  obtain ⟨I, hI⟩ : ∃ I, Nm.bt (Lib.itoa c) = I := ⟨_, rfl⟩
  obtain ⟨W, hW⟩ : ∃ W, Nm.bt (Nm.word s) = W := ⟨_, rfl⟩
  have hRES : Nm.bt ([114, 117, 108, 101, 32] ++ Nm.word s ++ [32] ++ (34 :: f.data.toList ++ [34]) ++ [32] ++ [116, 111] ++ [32] ++ (34 :: t.data.toList ++ [34]) ++ [32] ++ [99, 111, 115, 116] ++ [32] ++ Lib.itoa c ++ [59] ++ [10])
      = ⟨#[114, 117, 108, 101, 32]⟩ ++ W ++ ⟨#[32]⟩ ++ F ++ ⟨#[32]⟩ ++ ⟨#[116, 111]⟩ ++ ⟨#[32]⟩ ++ G ++ ⟨#[32]⟩ ++ ⟨#[99, 111, 115, 116]⟩ ++ ⟨#[32]⟩ ++ I ++ ⟨#[59]⟩ ++ ⟨#[10]⟩ := by
    refine ByteArray.ext (Array.toList_inj.1 ?_)
    simp only [Rw.app_list, Nm.bt_list, ← hF, ← hG, ← hI, ← hW]
  have HRES := Lib.hid hRES
  have z0 := hS.g s hs5
  rw [hF] at Q1 hq1
  rw [hG] at Q2 hq2
  rw [hI] at I1 hil
  rw [hW] at z0 hwl
  have hA := Nm.al w (.cells #[.int .i64 (s : Int), .string f, .string t, .int .i64 c] 52)
  have z1 := Nm.cell_bt z0 hA
  have HA := Lib.hid hA
  have hs0 : (0 : Int) ≤ (s : Int) := by omega
  have hs55 : (s : Int) < 5 := by omega
  rw [HRES.out]
  clear hF hG hI hW hA z0 hS hP hRES HRES
  have n0 : ¬ 9223372036854775807 < 5 + W.size := by omega
  have n1 : ¬ 9223372036854775807 < 5 + W.size + 1 := by omega
  have n2 : ¬ 9223372036854775807 < 5 + W.size + 1 + F.size := by omega
  have n3 : ¬ 9223372036854775807 < 5 + W.size + 1 + F.size + 1 := by omega
  have n4 : ¬ 9223372036854775807 < 5 + W.size + 1 + F.size + 1 + 2 := by omega
  have n5 : ¬ 9223372036854775807 < 5 + W.size + 1 + F.size + 3 := by omega
  have n6 : ¬ 9223372036854775807 < 5 + W.size + 1 + F.size + 1 + 2 + 1 := by omega
  have n7 : ¬ 9223372036854775807 < 5 + W.size + 1 + F.size + 4 := by omega
  have n8 : ¬ 9223372036854775807 < 5 + W.size + 1 + F.size + 1 + 2 + 1 + G.size := by omega
  have n9 : ¬ 9223372036854775807 < 5 + W.size + 1 + F.size + 4 + G.size := by omega
  have n10 : ¬ 9223372036854775807 < 5 + W.size + 1 + F.size + 1 + 2 + 1 + G.size + 1 := by omega
  have n11 : ¬ 9223372036854775807 < 5 + W.size + 1 + F.size + 4 + G.size + 1 := by omega
  have n12 : ¬ 9223372036854775807 < 5 + W.size + 1 + F.size + 1 + 2 + 1 + G.size + 1 + 4 := by omega
  have n13 : ¬ 9223372036854775807 < 5 + W.size + 1 + F.size + 4 + G.size + 5 := by omega
  have n14 : ¬ 9223372036854775807 < 5 + W.size + 1 + F.size + 1 + 2 + 1 + G.size + 1 + 4 + 1 := by omega
  have n15 : ¬ 9223372036854775807 < 5 + W.size + 1 + F.size + 4 + G.size + 6 := by omega
  have n16 : ¬ 9223372036854775807 < 5 + W.size + 1 + F.size + 1 + 2 + 1 + G.size + 1 + 4 + 1 + I.size := by omega
  have n17 : ¬ 9223372036854775807 < 5 + W.size + 1 + F.size + 4 + G.size + 6 + I.size := by omega
  have n18 : ¬ 9223372036854775807 < 5 + W.size + 1 + F.size + 1 + 2 + 1 + G.size + 1 + 4 + 1 + I.size + 1 := by omega
  have n19 : ¬ 9223372036854775807 < 5 + W.size + 1 + F.size + 4 + G.size + 6 + I.size + 1 := by omega
  have n20 : ¬ 9223372036854775807 < 5 + W.size + 1 + F.size + 1 + 2 + 1 + G.size + 1 + 4 + 1 + I.size + 1 + 1 := by omega
  have n21 : ¬ 9223372036854775807 < 5 + W.size + 1 + F.size + 4 + G.size + 6 + I.size + 2 := by omega
  unfold Rw.Rl.val
  simp only
  go_enter Tryz.func53, Tryz.ntmps53
  go_wp2_with fail
  generalize hV : w.alloc (.cells #[.int .i64 (s : Int), .string f, .string t, .int .i64 c] 52) = V at *
  have BX : Rw.Bx V w.heap.size #[.int .i64 (s : Int), .string f, .string t, .int .i64 c] 52 := by rw [← hV]; exact heap_alloc_new _ _
  have x0 := BX.c 0 _ rfl
  have y0 := fun dq os => cell_regrown x0 dq os
  have x1 := BX.c 1 _ rfl
  have y1 := fun dq os => cell_regrown x1 dq os
  have x2 := BX.c 2 _ rfl
  have y2 := fun dq os => cell_regrown x2 dq os
  have x3 := BX.c 3 _ rfl
  have y3 := fun dq os => cell_regrown x3 dq os
  have yz := fun dq os => cell_regrown z1 dq os
  have CQ1 := Lib.hid (fun dq os => Calls.regrown_of ((Q1.out (grow (redrawn V dq) os)).mono fun e w' h => ⟨h.1, by rw [← h.2]; exact Below.refl _ _⟩))
  have CQ2 := Lib.hid (fun dq os => Calls.regrown_of ((Q2.out (grow (redrawn V dq) os)).mono fun e w' h => ⟨h.1, by rw [← h.2]; exact Below.refl _ _⟩))
  have CI1 := Lib.hid (fun dq os => Calls.regrown_of (I1.out (grow (redrawn V dq) os) (Rw.Nb HA.out (below_regrown V dq os))))
  clear hV BX x0 x1 x2 x3 z1 Q1 Q2 I1
  refine wp_region_quiet_below (by kernel_rfl) (by kernel_rfl) ?_
  repeat (quiet_step (first | (go_at_call_of 91 (Value.string f); exact CQ1.out _ _) | (go_at_call_of 91 (Value.string t); exact CQ2.out _ _) | (go_at_call 92; exact CI1.out _ _)))
  refine wpQuiet_nil ?_
  intro _ hw'
  obtain ⟨⟨dq, osq⟩, hw''⟩ := hw'
  subst hw''
  have hb := Rw.Nb HA.out (below_regrown V dq osq)
  clear y0 y1 y2 y3 yz CQ1 CQ2 CI1
  generalize grow (redrawn V dq) osq = w5 at *
  go_wp2_with fail
  go_ret
  exact ⟨rfl, hb⟩
theorem Rw.dropLine_any (b : ByteArray) (hb0 : b.size ≤ 10) (x : Rw.Dp) (hs : 1 ≤ Nm.sc x.k) (hf : x.word.size ≤ 100) (h0 : 0 ≤ x.cost) (h1 : x.cost ≤ 1000) (w : World) (hS : Rw.Sw w.heap.size w) (hP : ∀ v, Below w.heap.size w v → Rw.Pw v) :
    Calls Tryz.prog 54 #[.string b, x.val] w fun e w' => e = .returned (.string (Nm.bt (Rw.dropL b.data.toList x))) ∧ Below w.heap.size w w' := by
  have hs5 := Nm.sc_lt x.k
  have hk := Rw.k_sc hs
  obtain ⟨k, f, c⟩ := x
  simp only at hk hf h0 h1 hs hs5
  unfold Rw.dropL
  simp only
  obtain ⟨s, hsk⟩ : ∃ s, Nm.sc k = s := ⟨_, rfl⟩
  rw [hsk] at hk hs hs5 ⊢
  subst hk
  clear hsk
  have hwl := Rw.word_size s hs5
  have hil := Rw.itoa_size h0 h1
  have Q1 := Lib.hid (fun v => Rw.quoted_any f v (by omega))
  have I1 := Lib.hid (fun v (hv : Below w.heap.size w v) => Rw.itoa_any c h0 h1 v (hP v hv))
  have hq1 := Rw.quo_size f 100 hf
  obtain ⟨F, hF⟩ : ∃ F, Nm.bt (34 :: f.data.toList ++ [34]) = F := ⟨_, rfl⟩
  obtain ⟨I, hI⟩ : ∃ I, Nm.bt (Lib.itoa c) = I := ⟨_, rfl⟩
  obtain ⟨W, hW⟩ : ∃ W, Nm.bt (Nm.word s) = W := ⟨_, rfl⟩
  have hRES : Nm.bt (b.data.toList ++ [32] ++ Nm.word s ++ [32] ++ (34 :: f.data.toList ++ [34]) ++ [32] ++ Lib.itoa c ++ [59] ++ [10])
      = b ++ ⟨#[32]⟩ ++ W ++ ⟨#[32]⟩ ++ F ++ ⟨#[32]⟩ ++ I ++ ⟨#[59]⟩ ++ ⟨#[10]⟩ := by
    refine ByteArray.ext (Array.toList_inj.1 ?_)
    simp only [Rw.app_list, Nm.bt_list, ← hF, ← hI, ← hW]
  have HRES := Lib.hid hRES
  have z0 := hS.g s hs5
  rw [hF] at Q1 hq1
  rw [hI] at I1 hil
  rw [hW] at z0 hwl
  have hA := Nm.al w (.cells #[.int .i64 (s : Int), .string f, .int .i64 c] 63)
  have z1 := Nm.cell_bt z0 hA
  have HA := Lib.hid hA
  have hs0 : (0 : Int) ≤ (s : Int) := by omega
  have hs55 : (s : Int) < 5 := by omega
  rw [HRES.out]
  clear hF hI hW hA z0 hS hP hRES HRES
  have n0 : ¬ 9223372036854775807 < b.size + 1 := by omega
  have n1 : ¬ 9223372036854775807 < b.size + 1 + W.size := by omega
  have n2 : ¬ 9223372036854775807 < b.size + 1 + W.size + 1 := by omega
  have n3 : ¬ 9223372036854775807 < b.size + 1 + W.size + 1 + F.size := by omega
  have n4 : ¬ 9223372036854775807 < b.size + 1 + W.size + 1 + F.size + 1 := by omega
  have n5 : ¬ 9223372036854775807 < b.size + 1 + W.size + 1 + F.size + 1 + I.size := by omega
  have n6 : ¬ 9223372036854775807 < b.size + 1 + W.size + 1 + F.size + 1 + I.size + 1 := by omega
  have n7 : ¬ 9223372036854775807 < b.size + 1 + W.size + 1 + F.size + 1 + I.size + 1 + 1 := by omega
  have n8 : ¬ 9223372036854775807 < b.size + 1 + W.size + 1 + F.size + 1 + I.size + 2 := by omega
  unfold Rw.Dp.val
  simp only
  go_enter Tryz.func54, Tryz.ntmps54
  go_wp2_with fail
  generalize hV : w.alloc (.cells #[.int .i64 (s : Int), .string f, .int .i64 c] 63) = V at *
  have BX : Rw.Bx V w.heap.size #[.int .i64 (s : Int), .string f, .int .i64 c] 63 := by rw [← hV]; exact heap_alloc_new _ _
  have x0 := BX.c 0 _ rfl
  have y0 := fun dq os => cell_regrown x0 dq os
  have x1 := BX.c 1 _ rfl
  have y1 := fun dq os => cell_regrown x1 dq os
  have x2 := BX.c 2 _ rfl
  have y2 := fun dq os => cell_regrown x2 dq os
  have yz := fun dq os => cell_regrown z1 dq os
  have CQ1 := Lib.hid (fun dq os => Calls.regrown_of ((Q1.out (grow (redrawn V dq) os)).mono fun e w' h => ⟨h.1, by rw [← h.2]; exact Below.refl _ _⟩))
  have CI1 := Lib.hid (fun dq os => Calls.regrown_of (I1.out (grow (redrawn V dq) os) (Rw.Nb HA.out (below_regrown V dq os))))
  clear hV BX x0 x1 x2 z1 Q1 I1
  refine wp_region_quiet_below (by kernel_rfl) (by kernel_rfl) ?_
  repeat (quiet_step (first | (go_at_call_of 91 (Value.string f); exact CQ1.out _ _) | (go_at_call 92; exact CI1.out _ _)))
  refine wpQuiet_nil ?_
  intro _ hw'
  obtain ⟨⟨dq, osq⟩, hw''⟩ := hw'
  subst hw''
  have hb := Rw.Nb HA.out (below_regrown V dq osq)
  clear y0 y1 y2 yz CQ1 CI1
  generalize grow (redrawn V dq) osq = w5 at *
  go_wp2_with fail
  go_ret
  exact ⟨rfl, hb⟩
theorem Rw.costsLine_any (t : Rw.TV) (hd0 : 0 ≤ t.d) (hd1 : t.d ≤ 1000) (ho0 : 0 ≤ t.o) (ho1 : t.o ≤ 1000) (hi0 : 0 ≤ t.i) (hi1 : t.i ≤ 1000) (w : World) (hP : ∀ v, Below w.heap.size w v → Rw.Pw v) :
    Calls Tryz.prog 55 #[t.val] w fun e w' => e = .returned (.string (Nm.bt (Rw.costsL t.d t.o t.i))) ∧ Below w.heap.size w w' := by
  obtain ⟨A, a, B, b, C, c, R, D, E, d, o, i⟩ := t
  simp only at hd0 hd1 ho0 ho1 hi0 hi1 ⊢
  have l1 := Rw.itoa_size hd0 hd1
  have l2 := Rw.itoa_size ho0 ho1
  have l3 := Rw.itoa_size hi0 hi1
  have I1 := Lib.hid (fun v (hv : Below w.heap.size w v) => Rw.itoa_any d hd0 hd1 v (hP v hv))
  have I2 := Lib.hid (fun v (hv : Below w.heap.size w v) => Rw.itoa_any o ho0 ho1 v (hP v hv))
  have I3 := Lib.hid (fun v (hv : Below w.heap.size w v) => Rw.itoa_any i hi0 hi1 v (hP v hv))
  unfold Rw.costsL
  obtain ⟨X, hX⟩ : ∃ X, Nm.bt (Lib.itoa d) = X := ⟨_, rfl⟩
  obtain ⟨Y, hY⟩ : ∃ Y, Nm.bt (Lib.itoa o) = Y := ⟨_, rfl⟩
  obtain ⟨Z, hZ⟩ : ∃ Z, Nm.bt (Lib.itoa i) = Z := ⟨_, rfl⟩
  have hRES : Nm.bt ([99, 111, 115, 116, 115, 32] ++ Lib.itoa d ++ [32] ++ Lib.itoa o ++ [32] ++ Lib.itoa i ++ [59] ++ [10]) = ⟨#[99, 111, 115, 116, 115, 32]⟩ ++ X ++ ⟨#[32]⟩ ++ Y ++ ⟨#[32]⟩ ++ Z ++ ⟨#[59]⟩ ++ ⟨#[10]⟩ := by
    refine ByteArray.ext (Array.toList_inj.1 ?_)
    simp only [Rw.app_list, Nm.bt_list, ← hX, ← hY, ← hZ]
  have HRES := Lib.hid hRES
  rw [hX] at I1 l1
  rw [hY] at I2 l2
  rw [hZ] at I3 l3
  have HA := Lib.hid (Nm.al w (.cells #[.slice A R.length a, .slice B D.length b, .slice C E.length c, .int .i64 d, .int .i64 o, .int .i64 i] 25))
  rw [HRES.out]
  clear hX hY hZ hRES HRES hP
  have n0 : ¬ 9223372036854775807 < 6 + X.size := by omega
  have n1 : ¬ 9223372036854775807 < 6 + X.size + 1 := by omega
  have n2 : ¬ 9223372036854775807 < 6 + X.size + 1 + Y.size := by omega
  have n3 : ¬ 9223372036854775807 < 6 + X.size + 1 + Y.size + 1 := by omega
  have n4 : ¬ 9223372036854775807 < 6 + X.size + 1 + Y.size + 1 + Z.size := by omega
  have n5 : ¬ 9223372036854775807 < 6 + X.size + 1 + Y.size + 1 + Z.size + 1 := by omega
  have n6 : ¬ 9223372036854775807 < 6 + X.size + 1 + Y.size + 1 + Z.size + 1 + 1 := by omega
  have n7 : ¬ 9223372036854775807 < 6 + X.size + 1 + Y.size + 1 + Z.size + 2 := by omega
  unfold Rw.TV.val
  simp only
  go_enter Tryz.func55, Tryz.ntmps55
  go_wp2_with fail
  generalize hV : w.alloc (.cells #[.slice A R.length a, .slice B D.length b, .slice C E.length c, .int .i64 d, .int .i64 o, .int .i64 i] 25) = V at *
  have BX : Rw.Bx V w.heap.size #[.slice A R.length a, .slice B D.length b, .slice C E.length c, .int .i64 d, .int .i64 o, .int .i64 i] 25 := by rw [← hV]; exact heap_alloc_new _ _
  have x3 := BX.c 3 _ rfl
  have y3 := fun dq os => cell_regrown x3 dq os
  have x4 := BX.c 4 _ rfl
  have y4 := fun dq os => cell_regrown x4 dq os
  have x5 := BX.c 5 _ rfl
  have y5 := fun dq os => cell_regrown x5 dq os
  have CI1 := Lib.hid (fun dq os => Calls.regrown_of (I1.out (grow (redrawn V dq) os) (Rw.Nb HA.out (below_regrown V dq os))))
  have CI2 := Lib.hid (fun dq os => Calls.regrown_of (I2.out (grow (redrawn V dq) os) (Rw.Nb HA.out (below_regrown V dq os))))
  have CI3 := Lib.hid (fun dq os => Calls.regrown_of (I3.out (grow (redrawn V dq) os) (Rw.Nb HA.out (below_regrown V dq os))))
  clear hV BX x3 x4 x5 I1 I2 I3
  refine wp_region_quiet_below (by kernel_rfl) (by kernel_rfl) ?_
  repeat (quiet_step (first | (go_at_call_of 92 (Value.int IntKind.i64 d); exact CI1.out _ _) | (go_at_call_of 92 (Value.int IntKind.i64 o); exact CI2.out _ _) | (go_at_call_of 92 (Value.int IntKind.i64 i); exact CI3.out _ _)))
  refine wpQuiet_nil ?_
  intro _ hw'
  obtain ⟨⟨dq, osq⟩, hw''⟩ := hw'
  subst hw''
  have hb := Rw.Nb HA.out (below_regrown V dq osq)
  clear y3 y4 y5 CI1 CI2 CI3
  generalize grow (redrawn V dq) osq = w5 at *
  go_wp2_with fail
  go_ret
  exact ⟨rfl, hb⟩
end Go.Proofs.YtkddpealobeleaaGreatDoor
