import Derived.Test.YtkbncdcphohmiaaGreatDoorNaAD
import Derived.Lib.AppendZeros
import Derived.Laws.AppendOwn
import Derived.Deep.RegionHeld3
import Derived.Deep.DrawnRows
import Derived.Laws.EntriesVeiled
/- Products of numbers in limbs. -/
set_option linter.unusedSimpArgs false
set_option linter.unusedVariables false
namespace Go.Proofs.YtkbncdcphohmiaaGreatDoor
open Go.RowKit
set_option maxRecDepth 100000

theorem mul_wrap (x y p : Nat) (z : Int) (h : p = x * y) (hp : p < 9223372036854775808) (hz : 0 ≤ z + (p : Int) ∧ z + (p : Int) ≤ 20000000000000000) : wrap64 (z + wrap64 ((x : Int) * (y : Int))) = z + (p : Int) := by
  have hxi : ((x : Int) * (y : Int)) = (p : Int) := by rw [h]; simp
  have hw : wrap64 ((x : Int) * (y : Int)) = (p : Int) := by rw [hxi]; unfold wrap64; omega
  rw [hw]
  unfold wrap64
  omega

theorem mul_bound {i la j lb : Nat} (hi : i < la) (hj : j < lb) (hla : la ≤ 100) (hlb : lb ≤ 100) : i * lb + j + 1 ≤ 10000 := by
  have h1 : i * lb ≤ 99 * lb := Nat.mul_le_mul_right _ (by omega)
  omega

set_option maxHeartbeats 1000000 in
theorem times_any (A A' : Option Addr) (a b : List Nat) (c c' : Nat) (w : World) (hs : Ints w w.heap.size A a) (hs' : Ints w w.heap.size A' b) (hl : a.length ≤ 100) (hl' : b.length ≤ 100) (hd : ∀ d ∈ a, d < 1000001) (hd' : ∀ d ∈ b, d < 1000001) (hv : Na.lv a * Na.lv b < 1000000 ^ (a.length + b.length)) :
    Calls Tryz.prog 130 #[.slice A a.length c, .slice A' b.length c'] w (GivesN (Na.lv a * Na.lv b) w) := by
  have HS := Lib.hid hs
  have HS' := Lib.hid hs'
  have HD := Lib.hid hd
  have HD' := Lib.hid hd'
  unfold GivesN
  obtain ⟨N, hN⟩ : ∃ N : Nat, N = a.length + b.length := ⟨_, rfl⟩
  rw [← hN] at hv
  have HB := Lib.hid hv
  have hN3 : N ≤ 200 := by omega
  have HN := Lib.hid hN
  have hNi : ((a.length : Int) + (b.length : Int)) = (N : Int) := by omega
  have HNi := Lib.hid hNi
  clear hs hs' hd hd' hv hNi hN
  go_enter Tryz.func130, Tryz.ntmps130
  go_wp2_with (first
    | (at_make
       refine list_make rfl (.tmp 14) (.tmp 14) 41 rfl rfl N (by omega) (by show Value.int .i64 _ = _; rw [← HNi.out]) (by show Value.int .i64 _ = _; rw [← HNi.out]) ?_
       intro w1 hh1 hb1
       have HH1 := Lib.hid hh1
       clear hh1)
    | fail)
  have HO1 := Lib.hid (own_of_row HH1.out (Nat.le_refl _) (by rw [List.length_replicate]; unfold maxLen; omega))
  rw [List.length_replicate] at HO1
  clear HH1
  go_loopw [18] (fun i wr => ∃ (k : Nat) (L : List Int), k ≤ a.length ∧ i = .int .i64 (k : Int) ∧ Hid (L.length = N) ∧ Hid (Na.lz L = ((Na.lv (a.take k) * Na.lv b : Nat) : Int)) ∧ Hid (∀ z ∈ L, 0 ≤ z ∧ z ≤ 1000003000000 * ((k * b.length : Nat) : Int)) ∧ Hid (OwnZ wr w.heap.size w.heap.size N L) ∧ Below w.heap.size w wr) (fun i _ => a.length - (intOf i).toNat)
  case atStart =>
    refine ⟨0, List.replicate N 0, by omega, rfl, Lib.hid (by simp), Lib.hid ?_, Lib.hid ?_, Lib.hid HO1.out, hb1⟩
    · rw [Na.lz_zeros]; simp [Na.lv_nil]
    · intro z hz
      have := (List.mem_replicate.1 hz).2
      omega
  case round =>
    clear HO1
    obtain ⟨k, L, hk, rfl, HL, HV, HZ, HO, hb⟩ := hrel
    by_cases hlt : k < a.length
    · obtain ⟨ad, rfl, _, hca⟩ := (HS.out.bt hb) k hlt
      have hx := Na.getD_lt HD.out k hlt
      have HT := Lib.hid (Na.lv_take a k hlt)
      generalize a.getD k 0 = x at *
      go_wp2
      go_loopw [25] (fun i wr => ∃ (j : Nat) (L : List Int), j ≤ b.length ∧ i = .int .i64 (j : Int) ∧ Hid (L.length = N) ∧ Hid (Na.lz L = ((Na.lv (a.take k) * Na.lv b + 1000000 ^ k * (x * Na.lv (b.take j)) : Nat) : Int)) ∧ Hid (∀ z ∈ L, 0 ≤ z ∧ z ≤ 1000003000000 * ((k * b.length + j : Nat) : Int)) ∧ Hid (OwnZ wr w.heap.size w.heap.size N L) ∧ Below w.heap.size w wr) (fun i _ => b.length - (intOf i).toNat)
      case atStart => exact ⟨0, L, by omega, rfl, HL, Lib.hid (by rw [HV.out]; simp [Na.lv_nil]), HZ, HO, hb⟩
      case round =>
        clear HL HV HZ HO hb hca
        obtain ⟨j, L, hj, rfl, HL, HV, HZ, HO, hb⟩ := hrel
        by_cases hjt : j < b.length
        · obtain ⟨ad', rfl, _, hcb⟩ := (HS'.out.bt hb) j hjt
          have hkj : k + j < N := by have := HN.out; omega
          have hcell := HO.out.cell (k + j) (by rw [HL.out]; omega)
          have hfr := HO.out.frozen (k + j)
          have hz := HZ.out (L.getD (k + j) 0) (getD_mem (by rw [HL.out]; omega))
          have hmb := mul_bound hlt hjt hl hl'
          have hy := Na.getD_lt HD'.out j hjt
          have FIN := Lib.hid (fun u : Int => And.intro (HO.out.stored (k + j) u) (And.intro (HO.out.below hb (k + j) u) (Na.lz_set L (k + j) u (by rw [HL.out]; omega))))
          have HT' := Lib.hid (Na.lv_take b j hjt)
          generalize L.getD (k + j) 0 = z at *
          generalize b.getD j 0 = y at *
          have hxy : x * y ≤ 1000000 * 1000000 := Nat.mul_le_mul (by omega) (by omega)
          have hxi : ((x : Int) * (y : Int)) = ((x * y : Nat) : Int) := by simp
          obtain ⟨p, hp⟩ : ∃ p, p = x * y := ⟨_, rfl⟩
          have hP2 := Lib.hid hp
          rw [← hp] at hxy hxi
          have hP : z + (p : Int) ≤ 1000003000000 * ((k * b.length + (j + 1) : Nat) : Int) := by omega
          have hP0 : 0 ≤ z + (p : Int) ∧ z + (p : Int) ≤ 20000000000000000 := by omega
          have HP := Lib.hid hP
          have HW := Lib.hid (mul_wrap x y p z hp (by omega) hP0)
          clear HS HS' HB HN HNi hP hxi hp hxy hz hmb
          go_wp2
          rw [HW.out]
          have hf := FIN.out (z + (p : Int))
          have hle0 : k * b.length + j ≤ k * b.length + (j + 1) := by omega
          refine ⟨⟨j + 1, L.set (k + j) (z + (p : Int)), by omega, by go_num, Lib.hid (by rw [List.length_set]; exact HL.out), Lib.hid ?_, Lib.hid ?_, Lib.hid hf.1, hf.2.1⟩, by simp [intOf]; omega⟩
          · rw [hf.2.2, HV.out, HT'.out, show z + (p : Int) - z = (p : Int) by omega, hP2.out, Nat.mul_add x, Nat.mul_add (1000000 ^ k), ← Nat.mul_assoc x, Nat.mul_comm x (1000000 ^ j), Nat.mul_assoc (1000000 ^ j), ← Nat.mul_assoc (1000000 ^ k) (1000000 ^ j), ← Nat.pow_add]
            simp only [Int.natCast_add, Int.natCast_mul]
            omega
          · intro u hu
            rcases mem_set' hu with h | h
            · have := HZ.out u h
              omega
            · rw [h]
              exact ⟨hP0.1, HP.out⟩
        · obtain rfl : j = b.length := by omega
          rw [List.take_length] at HV
          go_wp2
          refine ⟨⟨k + 1, L, by omega, by go_num, HL, Lib.hid ?_, Lib.hid ?_, HO, hb⟩, by simp [intOf]; omega⟩
          · rw [HV.out, HT.out, Nat.add_mul, Nat.mul_assoc]
          · intro z hz
            have := HZ.out z hz
            rw [Nat.add_mul, Nat.one_mul]
            exact this
    · obtain rfl : k = a.length := by omega
      rw [List.take_length] at HV
      have SE := Lib.hid (settled_any w.heap.size w.heap.size N (Na.lv a * Na.lv b) L wr (by exact HO.out) (by rw [HL.out]; omega) (fun z hz => by
        have := HZ.out z hz
        have h1 : a.length * b.length ≤ 100 * 100 := Nat.mul_le_mul hl hl'
        omega) HV.out (by rw [HL.out]; exact HB.out))
      rw [HL.out] at SE
      have hNm : N ≤ maxLen := HO.out.facts.2.2.2
      have HLL := Lib.hid (Na.lim_length.2 HB.out)
      clear HS HS' HO HZ HV
      go_wp2_with fail
      refine SE.out.mono ?_
      rintro e w3 ⟨rfl, hi, hb3⟩
      have HI := Lib.hid hi
      clear hi
      go_wp2_with fail
      go_ret
      exact ⟨_, _, rfl, HI.out, HLL.out, hNm, Below.trans hb hb3⟩
end Go.Proofs.YtkbncdcphohmiaaGreatDoor

/- The library's Grow of nil and Concat of two slices, at numbers in limbs. -/
set_option linter.unusedSimpArgs false
set_option linter.unusedVariables false
namespace Go.Proofs.YtkbncdcphohmiaaGreatDoor
open Go.RowKit
set_option maxRecDepth 100000

set_option maxHeartbeats 1000000 in
theorem grow_nil (n : Nat) (w : World) (h0 : 0 < n) (hn : n ≤ 1000000) :
    Calls Tryz.prog 172 #[.slice none 0 0, .int .i64 (n : Int)] w fun e w' => ∃ g cap, e = .returned (.slice (some ⟨g, 0, none⟩) 0 cap) ∧ OwnZ w' w.heap.size g cap [] ∧ Below w.heap.size w w' := by
  obtain ⟨i0, hi, hz0, hz1, hz2⟩ := info_parts infoI
  have hrz : ∀ ty, (Builtin.append_ #[118, 3] ty #[.slice none 0 0, .int .i64 (n : Int)]).run Tryz.prog w = _ := fun ty => Lib.run_append_nil_zeros w 118 3 ty 3 i0 (.int .i64 0) .i64 .i64 rfl rfl hi hz0 n h0 (by omega) (by omega) (by rw [hz2]; omega)
  have hge := grownCap_ge w n 0 3
  have hle := grownCap_le_maxLen w n 0 3 (by unfold maxLen; omega)
  generalize grownCap w n 0 3 = cap at *
  have FIN : Hid (OwnZ (w.drew.alloc (.cells (Builtin.zeroCells (Value.int .i64 0).cells n ++ Builtin.zeroCells (Value.int .i64 0).cells (cap - n)) 3)) w.heap.size w.heap.size cap [] ∧ Below w.heap.size w (w.drew.alloc (.cells (Builtin.zeroCells (Value.int .i64 0).cells n ++ Builtin.zeroCells (Value.int .i64 0).cells (cap - n)) 3))) := by
    refine Lib.hid ⟨⟨rfl, .inr ⟨w.heap.size, cap, _, rfl, Nat.le_refl _, heap_alloc_new _ _, by simp, hle, ?_, by simp⟩⟩, ?_⟩
    · simp [Builtin.zeroCells, Value.cells]; omega
    · exact ((Below.refl _ _).drew).alloc (Nat.le_refl _) _
  have h1 : wrap64 ((0 : Int) - 0) = 0 := by unfold wrap64; omega
  have h4 : (n : Int) > 0 := by omega
  unfold maxLen at hle
  generalize w.drew.alloc (.cells (Builtin.zeroCells (Value.int .i64 0).cells n ++ Builtin.zeroCells (Value.int .i64 0).cells (cap - n)) 3) = W at *
  go_enter Tryz.func172, Tryz.ntmps172
  go_wp2_with (first
    | (at_builtin; refine Lib.wpList_append_run _ rfl (.tmp 20) (.tmp 21) 118 3 rfl _ _ rfl rfl _ _ (hrz _) ?_)
    | fail)
  go_ret
  exact ⟨_, _, rfl, FIN.out.1, FIN.out.2⟩

theorem run_nothing (ty : TypeId) (g n cap : Nat) (hnc : n ≤ cap) (A : Option Addr) (c : Nat) (w : World) :
    (Builtin.append_ #[118, 118] ty #[.slice (some ⟨g, 0, none⟩) n cap, .slice A 0 c]).run Tryz.prog w = .ok (.slice (some ⟨g, 0, none⟩) n cap) w := by
  obtain ⟨i0, hi, hz0, hz1, hz2⟩ := info_parts infoI
  cases A <;> simp [Builtin.append_, run_underlying Tryz.underlying118, Go.sizeOf, typeInfo, hi, Builtin.lenOf, Builtin.firstCells, hnc, storeCells, loadCells, loadCellsFrom]

set_option maxHeartbeats 1000000 in
theorem concat_any (G : Nat) (a1 : Addr) (A : Option Addr) (x : Nat) (r : List Nat) (c : Nat) (w : World) (h0 : w.cell? ⟨G, 0, none⟩ = some (.slice (some a1) 1 1)) (h1 : w.cell? ⟨G, 1, none⟩ = some (.slice A r.length c)) (hG : G < w.heap.size) (hx : Ints w w.heap.size (some a1) [x]) (hs : Ints w w.heap.size A r) (hl : r.length ≤ 1000) :
    Calls Tryz.prog 153 #[.slice (some ⟨G, 0, none⟩) 2 2] w fun e w' => ∃ g cap, e = .returned (.slice (some ⟨g, 0, none⟩) (1 + r.length) cap) ∧ OwnZ w' w.heap.size g cap ((x :: r).map fun d : Nat => (d : Int)) ∧ Below w.heap.size w w' := by
  have GR := Lib.hid (grow_nil (1 + r.length) w (by omega) (by omega))
  have H0 := Lib.hid (fun wr (hb : Below w.heap.size w wr) => (hb.cell (p := ⟨G, 0, none⟩) hG).trans h0)
  have H1 := Lib.hid (fun wr (hb : Below w.heap.size w wr) => (hb.cell (p := ⟨G, 1, none⟩) hG).trans h1)
  have HX := Lib.hid (fun w' hb => ints_src (w' := w') hx hb)
  have e1 : ((1 : Int) + (r.length : Int)) = ((1 + r.length : Nat) : Int) := by omega
  have HE1 := Lib.hid e1
  clear e1
  go_enter Tryz.func153, Tryz.ntmps153
  go_wp2
  go_loop [3, 11] (fun s i => (s = .int .i64 0 ∧ i = .int .i64 0) ∨ (s = .int .i64 1 ∧ i = .int .i64 1) ∨ (s = .int .i64 (((1 + r.length : Nat) : Int)) ∧ i = .int .i64 2)) (fun _ i => 2 - (intOf i).toNat)
  case atStart => exact .inl ⟨rfl, rfl⟩
  case round =>
    rcases hrel with ⟨rfl, rfl⟩ | ⟨rfl, rfl⟩ | ⟨rfl, rfl⟩
    · go_wp2
      exact ⟨.inr (.inl ⟨rfl, rfl⟩), by simp [intOf]⟩
    · go_wp2
      refine ⟨.inr (.inr ⟨?_, rfl⟩), by simp [intOf]⟩
      rw [← HE1.out]
    · go_wp2_with fail
      refine GR.out.mono ?_
      rintro e w1 ⟨g0, cap0, rfl, ho, hb⟩
      have HO0 := Lib.hid ho
      clear ho GR
      go_wp2_with fail
      go_loopw [6, 27] (fun v i wr => ∃ (l : List Int) (g cap : Nat), v = .slice (some ⟨g, 0, none⟩) l.length cap ∧ Hid (OwnZ wr w.heap.size g cap l) ∧ Below w.heap.size w wr ∧ ((i = .int .i64 0 ∧ l = []) ∨ (i = .int .i64 1 ∧ l = [(x : Int)]) ∨ (i = .int .i64 2 ∧ l = (x :: r).map fun d : Nat => (d : Int)))) (fun _ i _ => 2 - (intOf i).toNat)
      case atStart => exact ⟨[], g0, cap0, rfl, HO0, hb, .inl ⟨rfl, rfl⟩⟩
      case round =>
        clear HO0 hb
        obtain ⟨l, g, cap, rfl, HO, hb, h⟩ := hrel
        rcases h with ⟨rfl, rfl⟩ | ⟨rfl, rfl⟩ | ⟨rfl, rfl⟩
        · have hc0 := H0.out wr hb
          have HB := Lib.hid hb
          clear hb
          go_wp2_with (first
            | (at_builtin
               refine list_appendZ rfl (.tmp 31) (.tmp 32) 118 rfl rfl w.heap.size _ [] rfl HO.out a1 1 1 [(x : Int)] rfl rfl (HX.out _ HB.out) (by omega) (by simp) HB.out.size ?_
               intro g2 cap2 w2 ho2 hb2
               have HO2 := Lib.hid ho2
               have HB2 := Lib.hid (HB.out.trans hb2)
               clear ho2 hb2)
            | fail)
          exact ⟨⟨_, g2, cap2, rfl, Lib.hid HO2.out, HB2.out, .inr (.inl ⟨rfl, rfl⟩)⟩, by simp [intOf]⟩
        · have hc1 := H1.out wr hb
          have HB := Lib.hid hb
          have hfc := HO.out.facts
          simp at hfc
          clear hb
          by_cases hr0 : r = []
          · have hrn : ∀ ty, (Builtin.append_ #[118, 118] ty #[.slice (some ⟨g, 0, none⟩) 1 cap, .slice A r.length c]).run Tryz.prog wr = .ok (.slice (some ⟨g, 0, none⟩) 1 cap) wr := fun ty => by
              rw [hr0]
              exact run_nothing ty g 1 cap hfc.2.2.1 A c wr
            have HR0 := Lib.hid hr0
            clear hr0
            go_wp2_with (first
              | (at_builtin; refine Lib.wpList_append_run _ rfl (.tmp 31) (.tmp 32) 118 118 rfl _ _ rfl rfl _ _ (hrn _) ?_)
              | fail)
            exact ⟨⟨[(x : Int)], g, cap, rfl, HO, HB.out, .inr (.inr ⟨rfl, by rw [HR0.out]; rfl⟩)⟩, by simp [intOf]⟩
          · obtain ⟨ad, rfl, _, _⟩ := hs 0 (List.length_pos_iff.2 hr0)
            have HR := Lib.hid (ints_src (w' := wr) hs HB.out)
            have hrl : 0 < r.length := List.length_pos_iff.2 hr0
            have hcl : (r.map fun d : Nat => (d : Int)).length = r.length := by simp
            go_wp2_with (first
              | (at_builtin
                 refine list_appendZ rfl (.tmp 31) (.tmp 32) 118 rfl rfl w.heap.size _ [(x : Int)] rfl HO.out ad r.length c (r.map fun d : Nat => (d : Int)) hcl rfl HR.out hrl (by simp; omega) HB.out.size ?_
                 intro g2 cap2 w2 ho2 hb2
                 have HO2 := Lib.hid ho2
                 have HB2 := Lib.hid (HB.out.trans hb2)
                 clear ho2 hb2)
              | fail)
            refine ⟨⟨(x :: r).map fun d : Nat => (d : Int), g2, cap2, ?_, Lib.hid HO2.out, HB2.out, .inr (.inr ⟨rfl, rfl⟩)⟩, by simp [intOf]⟩
            simp; omega
        · have HB := Lib.hid hb
          clear hb
          have hll : ((x :: r).map fun d : Nat => (d : Int)).length = 1 + r.length := by simp; omega
          rw [hll]
          go_wp2
          go_ret
          exact ⟨_, _, rfl, HO.out, HB.out⟩
end Go.Proofs.YtkbncdcphohmiaaGreatDoor

/- One limb of a quotient: sort.Search, its test, quotientLimb. -/
set_option linter.unusedSimpArgs false
set_option linter.unusedVariables false
namespace Go.Proofs.YtkbncdcphohmiaaGreatDoor
open Go.RowKit
set_option maxRecDepth 100000

/-- The library's binary search, at a function that answers by 'p'. -/
theorem search_any (n : Nat) (a1 a2 a3 : Value) (p : Nat → Bool) (w : World) (hn : n ≤ 1000000000)
    (hp : ∀ (h : Nat) (w' : World), h < n → Below w.heap.size w w' → Calls Tryz.prog 175 #[.int .i64 (h : Int), a1, a2, a3] w' fun e w'' => e = .returned (.bool (p h)) ∧ Below w'.heap.size w' w'') :
    Calls Tryz.prog 174 #[.int .i64 (n : Int), .func (.func 175) #[] #[a1, a2, a3]] w fun e w' => ∃ k : Nat, k ≤ n ∧ e = .returned (.int .i64 (k : Int)) ∧ Hid (k = 0 ∨ p (k - 1) = false) ∧ Hid (k = n ∨ p k = true) ∧ Below w.heap.size w w' := by
  have HP := Lib.hid hp
  clear hp
  go_enter Tryz.func174, Tryz.ntmps174
  go_wp2
  go_loopw [5, 6] (fun i j wr => ∃ a b : Nat, a ≤ b ∧ b ≤ n ∧ i = .int .i64 (a : Int) ∧ j = .int .i64 (b : Int) ∧ Hid (a = 0 ∨ p (a - 1) = false) ∧ Hid (b = n ∨ p b = true) ∧ Below w.heap.size w wr) (fun i j _ => (intOf j - intOf i).toNat)
  case atStart => exact ⟨0, n, by omega, Nat.le_refl _, rfl, rfl, Lib.hid (.inl rfl), Lib.hid (.inl rfl), Below.refl _ _⟩
  case round =>
    obtain ⟨a, b, hab, hbn, rfl, rfl, H1, H2, hb⟩ := hrel
    by_cases hlt : a < b
    · obtain ⟨h, hh⟩ : ∃ h : Nat, h = (a + b) / 2 := ⟨_, rfl⟩
      have hm : ((a : Int) + (b : Int)) / 2 = (h : Int) := by omega
      have h1 : a ≤ h := by omega
      have h2 : h < b := by omega
      have CP := Lib.hid (HP.out h wr (by omega) hb)
      clear hh
      have hpp : p h = true ∨ p h = false := by cases p h <;> simp
      rcases hpp with hpt | hpf
      · rw [hpt] at CP
        go_wp2_with fail
        refine CP.out.mono ?_
        rintro e w1 ⟨rfl, hb1⟩
        go_wp2
        exact ⟨⟨a, h, h1, by omega, rfl, rfl, H1, Lib.hid (.inr hpt), hb.trans (hb1.mono hb.size)⟩, by simp [intOf]; omega⟩
      · rw [hpf] at CP
        go_wp2_with fail
        refine CP.out.mono ?_
        rintro e w1 ⟨rfl, hb1⟩
        go_wp2
        exact ⟨⟨h + 1, b, by omega, hbn, by go_num, rfl, Lib.hid (.inr (by simpa using hpf)), H2, hb.trans (hb1.mono hb.size)⟩, by simp [intOf]; omega⟩
    · obtain rfl : a = b := by omega
      go_wp2
      go_ret
      exact ⟨a, hbn, rfl, H1, H2, hb⟩

theorem Nb {w v u : World} (h : Below w.heap.size w v) (g : Below v.heap.size v u) : Below w.heap.size w u := h.trans (g.mono h.size)
theorem drewN_below (w : World) (q : Nat) : Below w.heap.size w (w.drewN q) := ⟨rfl, rfl, rfl, Nat.le_refl _, fun _ _ => rfl⟩

theorem cell_lt {w : World} {a : Addr} {v : Value} (h : w.cell? a = some v) : a.block < w.heap.size := by
  refine Nat.lt_of_not_le fun hge => ?_
  simp [World.cell?, Array.getElem?_eq_none hge] at h

theorem box_ints {w : World} {g t : Nat} (h : w.heap[g]? = some (.cells #[.int .i64 (t : Int)] 3 (0, 0))) : Ints w w.heap.size (some ⟨g, 0, none⟩) [t] := by
  have := own_of_row (w := w) (B := 0) (g := g) (l := [(t : Int)]) h (Nat.zero_le _) (by simp [maxLen])
  exact this.ints rfl

def lowAt (w : World) (R Bv : Value) (low : Nat) (g1 g2 g3 : Nat) : Prop := w.cell? ⟨g1, 0, none⟩ = some R ∧ w.cell? ⟨g2, 0, none⟩ = some Bv ∧ w.cell? ⟨g3, 0, none⟩ = some (.int .i64 (low : Int))

set_option maxHeartbeats 1000000 in
theorem test_any (A A' : Option Addr) (m n c c' low k : Nat) (g1 g2 g3 : Nat) (w : World) (hs : Ints w w.heap.size A (Na.lim m)) (hs' : Ints w w.heap.size A' (Na.lim n)) (hl : (Na.lim m).length ≤ 70) (hl' : (Na.lim n).length ≤ 60)
    (hk : low + k + 1 ≤ 1000000) (k1 : w.cell? ⟨g1, 0, none⟩ = some (.slice A (Na.lim m).length c)) (k2 : w.cell? ⟨g2, 0, none⟩ = some (.slice A' (Na.lim n).length c')) (k3 : w.cell? ⟨g3, 0, none⟩ = some (.int .i64 (low : Int))) :
    Calls Tryz.prog 175 #[.int .i64 (k : Int), .pointer (some ⟨g1, 0, none⟩), .pointer (some ⟨g2, 0, none⟩), .pointer (some ⟨g3, 0, none⟩)] w fun e w' => e = .returned (.bool (decide (m < n * (low + k + 1)))) ∧ Below w.heap.size w w' := by
  have ht : ((low : Int) + (k : Int)) + 1 = ((low + k + 1 : Nat) : Int) := by omega
  have hlk : ((low : Int) + (k : Int)) = ((low + k : Nat) : Int) := by omega
  obtain ⟨t, hte⟩ : ∃ t, t = low + k + 1 := ⟨_, rfl⟩
  have hnt : n * t < 1000000 ^ ((Na.lim n).length + 1) := by
    have h1 := Na.lim_length.1 (Nat.le_refl (Na.lim n).length)
    have h2 : n * t ≤ n * 1000000 := Nat.mul_le_mul_left _ (by omega)
    rw [Nat.pow_succ]
    have h3 : n * 1000000 < 1000000 ^ (Na.lim n).length * 1000000 := Nat.mul_lt_mul_of_pos_right h1 (by omega)
    omega
  have e0 : Na.lv (Na.lim n) * Na.lv [t] = n * t := by rw [Na.lv_lim, Na.lv_cons, Na.lv_nil]; simp
  have TI : Hid (∀ W : World, Below w.heap.size w W → ∀ g : Nat, W.heap[g]? = some (.cells #[.int .i64 (t : Int)] 3 (0, 0)) → Calls Tryz.prog 130 #[.slice A' (Na.lim n).length c', .slice (some ⟨g, 0, none⟩) 1 1] W (GivesN (n * t) W)) := by
    refine Lib.hid fun W hb g hg => ?_
    have := times_any A' (some ⟨g, 0, none⟩) (Na.lim n) [t] c' 1 W (hs'.bt hb) (box_ints hg) (by omega) (by simp) (fun d hd => by have := Na.lim_lt n d hd; omega) (fun d hd => by rw [show d = t by simpa using hd]; omega) (by rw [e0]; simpa using hnt)
    rwa [e0] at this
  have hll : (Na.lim (n * t)).length ≤ (Na.lim n).length + 1 := Na.lim_length.2 hnt
  have CI := Lib.hid (fun W (hb : Below w.heap.size w W) (A2 : Option Addr) (c2 : Nat) (hi : Ints W W.heap.size A2 (Na.lim (n * t))) => compare_any A A2 m (n * t) c c2 W (hs.bt hb) hi (by omega) (by omega))
  have HR : Hid ((if decide (m < n * (low + k + 1)) = true then (-1 : Int) else cmpN m (n * t)) = cmpN m (n * t) ∧ decide (cmpN m (n * t) < 0) = decide (m < n * (low + k + 1))) := by
    refine Lib.hid ?_
    rw [← hte]
    unfold cmpN
    by_cases h : m < n * t
    · simp [h]
    · simp [h]
      split <;> simp
  rw [← hte] at ht
  obtain ⟨u, hu⟩ : ∃ u, u = low + k := ⟨_, rfl⟩
  have w1 : IntKind.i64.wrap ((low : Int) + (k : Int)) = (u : Int) := by rw [IntKind.wrap_i64]; omega
  have w2 : IntKind.i64.wrap ((u : Int) + 1) = (t : Int) := by rw [IntKind.wrap_i64]; omega
  have KB := Lib.hid (fun W (hb : Below w.heap.size w W) => And.intro ((hb.cell (p := ⟨g1, 0, none⟩) (cell_lt k1)).trans k1) (And.intro ((hb.cell (p := ⟨g2, 0, none⟩) (cell_lt k2)).trans k2) ((hb.cell (p := ⟨g3, 0, none⟩) (cell_lt k3)).trans k3)))
  have hbT : Below w.heap.size w ((w.alloc (.cells #[.int .i64 (t : Int)] 3)).drew) := ((Below.refl _ _).alloc (Nat.le_refl _) _).drew
  have hgT : ((w.alloc (.cells #[.int .i64 (t : Int)] 3)).drew).heap[w.heap.size]? = some (.cells #[.int .i64 (t : Int)] 3 (0, 0)) := heap_alloc_new w _
  clear hs hs' hnt hll hte e0 ht hlk hu hk
  go_enter Tryz.func175, Tryz.ntmps175
  go_wp2_with fail
  go_region_held3 (fun w' => w'.cell? ⟨g1, 0, none⟩ = some (.slice A (Na.lim m).length c) ∧ w'.cell? ⟨g2, 0, none⟩ = some (.slice A' (Na.lim n).length c') ∧ w'.cell? ⟨g3, 0, none⟩ = some (.int .i64 (low : Int))) (first | exact ⟨k1, k2, k3⟩ | exact ⟨n1, n2, n3⟩ | exact ⟨o1, o2, o3⟩ | go_keep)
    (first
      | (go_at_call 130
         (with_reducible refine (TI.out _ hbT w.heap.size hgT).mono ?_)
         rintro e w3 ⟨A2, c2, rfl, hi, _, _, hb3⟩
         have hb3' := Nb hbT hb3
         have HI := Lib.hid hi
         clear hi
         obtain ⟨n1, n2, n3⟩ := KB.out _ hb3')
      | (go_at_call 131
         (with_reducible refine (CI.out _ hb3' A2 c2 HI.out).mono ?_)
         rintro e w4 ⟨rfl, q4, rfl⟩
         have hb4' := Nb hb3' (drewN_below w3 q4)
         obtain ⟨o1, o2, o3⟩ := KB.out _ hb4')
      | fail)
  go_wp2
  go_ret
  exact ⟨by rw [← HR.out.2]; rfl, hb4'⟩

theorem div_wrap (m n : Nat) (hm : m < 1000000000000000000) : wrap64 ((m : Int) / (n : Int)) = ((m / n : Nat) : Int) := by
  have h1 : ((m : Int) / (n : Int)) = ((m / n : Nat) : Int) := by simp
  have h2 := Nat.div_le_self m n
  rw [h1]
  generalize m / n = q at *
  unfold wrap64
  omega

set_option maxHeartbeats 1000000 in
theorem quotient_any (A A' : Option Addr) (m n c c' : Nat) (w : World) (hs : Ints w w.heap.size A (Na.lim m)) (hs' : Ints w w.heap.size A' (Na.lim n)) (hl' : (Na.lim n).length ≤ 60) (hn : 0 < n) (hmn : m < 1000000 * n) :
    Calls Tryz.prog 155 #[.slice A (Na.lim m).length c, .slice A' (Na.lim n).length c'] w fun e w' => e = .returned (.int .i64 ((m / n : Nat) : Int)) ∧ Below w.heap.size w w' := by
  have hll : (Na.lim m).length ≤ (Na.lim n).length + 1 := by
    refine Na.lim_length.2 ?_
    rw [Nat.pow_succ]
    have := Na.lim_length.1 (Nat.le_refl (Na.lim n).length)
    have : n * 1000000 < 1000000 ^ (Na.lim n).length * 1000000 := Nat.mul_lt_mul_of_pos_right this (by omega)
    omega
  have hpos : 0 < (Na.lim n).length := by
    rcases Nat.eq_zero_or_pos (Na.lim n).length with h | h
    · have := Na.lim_nil.1 (List.eq_nil_of_length_eq_zero h); omega
    · exact h
  obtain ⟨W1, hW1⟩ : ∃ W1, W1 = (w.alloc (.cells #[.slice A (Na.lim m).length c] 118)) := ⟨_, rfl⟩
  obtain ⟨W2, hW2⟩ : ∃ W2, W2 = (W1.alloc (.cells #[.slice A' (Na.lim n).length c'] 118)) := ⟨_, rfl⟩
  have hz1 : W1.heap.size = w.heap.size + 1 := by rw [hW1]; exact Array.size_push ..
  have hbW : Below w.heap.size w W2 := by
    rw [hW2, hW1]
    exact ((Below.refl _ w).alloc (Nat.le_refl _) _).alloc ((Below.refl _ w).alloc (Nat.le_refl _) _).size _
  have hc1 : W2.cell? ⟨w.heap.size, 0, none⟩ = some (.slice A (Na.lim m).length c) := by
    refine cell_of_one (t := 118) ?_
    rw [hW2]
    refine (((Below.refl _ W1).alloc (Nat.le_refl _) _).block _ (by omega)).trans ?_
    rw [hW1]
    exact heap_alloc_new w _
  have hc2 : W2.cell? ⟨w.heap.size + 1, 0, none⟩ = some (.slice A' (Na.lim n).length c') := by
    refine cell_of_one (t := 118) ?_
    rw [hW2, ← hz1]
    exact heap_alloc_new W1 _
  have hWz : W2.heap.size = w.heap.size + 2 := by rw [hW2]; exact (Array.size_push ..).trans (by rw [hz1])
  have HW2 := Lib.hid hW2
  have HW1 := Lib.hid hW1
  have S1 := hs.bt hbW
  have S2 := hs'.bt hbW
  have hdm := Lib.hid (Na.lim_lt m)
  have hdn := Lib.hid (Na.lim_lt n)
  have hvm := Lib.hid (Na.lv_lim m)
  have hvn := Lib.hid (Na.lv_lim n)
  have hPm := Lib.hid (Na.lim_length.1 (Nat.le_refl (Na.lim m).length))
  have hPn := Lib.hid (Na.lim_length.1 (Nat.le_refl (Na.lim n).length))
  clear hW1 hW2
  by_cases hsm : (Na.lim n).length ≤ 2
  · have hm18 : m < 1000000000000000000 := by
      have h1 : m < 1000000 ^ (Na.lim m).length := hPm.out
      have h2 : 1000000 ^ (Na.lim m).length ≤ 1000000 ^ 3 := Nat.pow_le_pow_right (by omega) (by omega)
      omega
    have hn18 : n < 1000000000000000000 := by
      have h1 : n < 1000000 ^ (Na.lim n).length := hPn.out
      have h2 : 1000000 ^ (Na.lim n).length ≤ 1000000 ^ 2 := Nat.pow_le_pow_right (by omega) (by omega)
      omega
    have AB1 : Hid (∀ q, Calls Tryz.prog 173 #[.slice A (Na.lim m).length c, .int .i64 0] (W2.drewN q) fun e w' => e = .returned (.int .i64 (m : Int)) ∧ (W2.drewN q) = w') := by
      refine Lib.hid fun q => ?_
      have := above_any A (Na.lim m) c 0 (W2.drewN q) S1 (by omega) (by omega) hdm.out (by rw [List.drop_zero, hvm.out]; exact hm18)
      rw [List.drop_zero, hvm.out] at this
      exact this
    have AB2 : Hid (∀ q, Calls Tryz.prog 173 #[.slice A' (Na.lim n).length c', .int .i64 0] (W2.drewN q) fun e w' => e = .returned (.int .i64 (n : Int)) ∧ (W2.drewN q) = w') := by
      refine Lib.hid fun q => ?_
      have := above_any A' (Na.lim n) c' 0 (W2.drewN q) S2 (by omega) (by omega) hdn.out (by rw [List.drop_zero, hvn.out]; exact hn18)
      rw [List.drop_zero, hvn.out] at this
      exact this
    have h2 : ((Na.lim n).length : Int) ≤ 2 := by omega
    have hni : ¬ ((n : Int) = 0) := by omega
    have hq : (m : Int) / (n : Int) = ((m / n : Nat) : Int) := by simp
    have HQ := Lib.hid hq
    clear hs hs' S1 S2 hq
    go_enter Tryz.func155, Tryz.ntmps155
    go_wp2_with fail
    rw [← HW1.out, ← HW2.out]
    go_quiet (first
      | (go_at_call 173; with_reducible exact (AB1.out _).mono fun _ _ h => ⟨h.1, _, h.2.symm⟩)
      | (go_at_call 173; with_reducible exact (AB2.out _).mono fun _ _ h => ⟨h.1, _, h.2.symm⟩))
    have HWr := Lib.hid (div_wrap m n hm18)
    go_wp2_with fail
    rw [HWr.out]
    go_ret
    exact ⟨rfl, Nb hbW (drewN_below W2 nq)⟩
  · obtain ⟨K, hK⟩ : ∃ K, (Na.lim n).length = K + 2 := ⟨(Na.lim n).length - 2, by omega⟩
    have hK1 : 1 ≤ K := by omega
    have hK58 : K ≤ 58 := by omega
    have hKi : (0 : Int) < (K : Int) := by omega
    have hD18 : m / 1000000 ^ K < 1000000000000000000 := by
      rw [Nat.div_lt_iff_lt_mul (Nat.pos_of_ne_zero (by simp))]
      have h1 : m < 1000000 ^ (Na.lim m).length := hPm.out
      have h2 : 1000000 ^ (Na.lim m).length ≤ 1000000 ^ (K + 3) := Nat.pow_le_pow_right (by omega) (by omega)
      rw [Nat.pow_add] at h2
      omega
    have hE12 : n / 1000000 ^ K < 1000000000000 := by
      rw [Nat.div_lt_iff_lt_mul (Nat.pos_of_ne_zero (by simp))]
      have h1 : n < 1000000 ^ (Na.lim n).length := hPn.out
      rw [hK, Nat.pow_add] at h1
      omega
    have hge := Na.lim_ge (n := n) (k := K + 1) (by omega)
    have hE0 : 0 < n / 1000000 ^ K := by
      have h1 : 1000000 ^ K ≤ n := Nat.le_trans (Nat.pow_le_pow_right (by omega) (by omega)) hge
      exact Nat.div_pos h1 (Nat.pos_of_ne_zero (by simp))
    have HH := Na.high_le m n K hmn hge
    have HQB := Na.quot_between m n (1000000 ^ K) _ _ (Nat.pos_of_ne_zero (by simp)) rfl rfl hE0
    have AB1 : Hid (∀ q, Calls Tryz.prog 173 #[.slice A (Na.lim m).length c, .int .i64 (K : Int)] (W2.drewN q) fun e w' => e = .returned (.int .i64 ((m / 1000000 ^ K : Nat) : Int)) ∧ (W2.drewN q) = w') := by
      refine Lib.hid fun q => ?_
      have := above_all A (Na.lim m) c K (W2.drewN q) S1 (by omega) hdm.out (by rw [Na.lv_drop_all]; exact hD18)
      rwa [Na.lv_drop_all] at this
    have AB2 : Hid (∀ q, Calls Tryz.prog 173 #[.slice A' (K + 2) c', .int .i64 (K : Int)] (W2.drewN q) fun e w' => e = .returned (.int .i64 ((n / 1000000 ^ K : Nat) : Int)) ∧ (W2.drewN q) = w') := by
      refine Lib.hid fun q => ?_
      have := above_all A' (Na.lim n) c' K (W2.drewN q) S2 (by omega) hdn.out (by rw [Na.lv_drop_all]; omega)
      rwa [Na.lv_drop_all, hK] at this
    have FD := Lib.hid (fun k hk h3 h4 => Na.found m n ((m / 1000000 ^ K) / (n / 1000000 ^ K + 1)) ((m / 1000000 ^ K) / (n / 1000000 ^ K)) k (m / n) hn rfl HQB.1 HQB.2 hk h3 h4)
    have TA := Lib.hid (fun (low k g3 : Nat) (W : World) (hb : Below W2.heap.size W2 W) (hk : low + k + 1 ≤ 1000000) (k3 : W.cell? ⟨g3, 0, none⟩ = some (.int .i64 (low : Int))) =>
      test_any A A' m n c c' low k w.heap.size (w.heap.size + 1) g3 W (S1.bt hb) (S2.bt hb) (by omega) hl' hk ((hb.cell (p := ⟨w.heap.size, 0, none⟩) (cell_lt hc1)).trans hc1) ((hb.cell (p := ⟨w.heap.size + 1, 0, none⟩) (cell_lt hc2)).trans hc2) k3)
    have hlh : (m / 1000000 ^ K) / (n / 1000000 ^ K + 1) ≤ (m / 1000000 ^ K) / (n / 1000000 ^ K) := Nat.le_trans HQB.1 HQB.2
    rw [hK] at hc2 HW2 ⊢
    have HW1r := Lib.hid (div_wrap (m / 1000000 ^ K) (n / 1000000 ^ K) hD18)
    have HW2r : Hid (wrap64 (((m / 1000000 ^ K : Nat) : Int) / (((n / 1000000 ^ K : Nat) : Int) + 1)) = (((m / 1000000 ^ K) / (n / 1000000 ^ K + 1) : Nat) : Int)) := Lib.hid (by have := div_wrap (m / 1000000 ^ K) (n / 1000000 ^ K + 1) hD18; rwa [Int.natCast_add] at this)
    clear hs hs' S1 S2 HQB hge hD18 hmn hll hpos hl' hsm
    generalize m / 1000000 ^ K = D at *
    generalize n / 1000000 ^ K = E at *
    generalize hhi : D / E = hi at *
    generalize hlo : D / (E + 1) = lo at *
    have hE1 : ((E : Int) + 1) = ((E + 1 : Nat) : Int) := by omega
    have hni : ¬ ((E : Int) = 0) := by omega
    have hni2 : ¬ ((E : Int) + 1 = 0) := by omega
    clear hhi hlo hE1
    go_enter Tryz.func155, Tryz.ntmps155
    go_wp2_with fail
    rw [← HW1.out, ← HW2.out]
    go_quiet (first
      | (go_at_call 173; with_reducible exact (AB1.out _).mono fun _ _ h => ⟨h.1, _, h.2.symm⟩)
      | (go_at_call 173; with_reducible exact (AB2.out _).mono fun _ _ h => ⟨h.1, _, h.2.symm⟩))
    go_wp2_with fail
    rw [HW1r.out, HW2r.out]
    obtain ⟨W3, hW3⟩ : ∃ W3, W3 = (W2.drewN nq).alloc (.cells #[.int .i64 (lo : Int)] 3) := ⟨_, rfl⟩
    rw [← hW3]
    have hz2 : (W2.drewN nq).heap.size = w.heap.size + 2 := hWz
    have hb3 : Below W2.heap.size W2 W3 := by
      rw [hW3]
      exact (drewN_below W2 nq).alloc (Nat.le_refl _) _
    have hk3 : W3.cell? ⟨w.heap.size + 2, 0, none⟩ = some (.int .i64 (lo : Int)) := by
      refine cell_of_one (t := 3) ?_
      rw [hW3, ← hz2]
      exact heap_alloc_new _ _
    have hk3l : w.heap.size + 2 < W3.heap.size := cell_lt hk3
    have hb3d : Below W2.heap.size W2 W3.drew := hb3.drew
    have SE := Lib.hid (search_any (hi - lo) (.pointer (some ⟨w.heap.size, 0, none⟩)) (.pointer (some ⟨w.heap.size + 1, 0, none⟩)) (.pointer (some ⟨w.heap.size + 2, 0, none⟩)) (fun k => decide (m < n * (lo + k + 1))) W3.drew (by omega)
      (fun h W' hh hb => TA.out lo h (w.heap.size + 2) W' (Nb hb3d hb) (by omega) ((hb.cell (p := ⟨w.heap.size + 2, 0, none⟩) hk3l).trans hk3)))
    have wsub : IntKind.i64.wrap ((hi : Int) - (lo : Int)) = ((hi - lo : Nat) : Int) := by rw [IntKind.wrap_i64]; omega
    have HHI := Lib.hid (And.intro HH hlh)
    clear hW3 hz2 TA HH hlh AB1 AB2 HW1 HW2 hdm hdn hvm hvn hPm hPn
    go_region_held3 (fun w' => w'.cell? ⟨w.heap.size + 2, 0, none⟩ = some (.int .i64 (lo : Int))) (first | exact hk3 | exact q3 | go_keep)
      (first
        | (go_at_call 174
           (with_reducible refine SE.out.mono ?_)
           rintro e w4 ⟨k, hkn, rfl, H1, H2, hb4⟩
           have q3 := (hb4.cell (p := ⟨w.heap.size + 2, 0, none⟩) hk3l).trans hk3
           have wadd : IntKind.i64.wrap ((lo : Int) + (k : Int)) = ((lo + k : Nat) : Int) := by have := HHI.out; rw [IntKind.wrap_i64]; omega
           have hb4' := Nb hbW (Nb hb3d hb4))
        | fail)
    go_wp2
    go_ret
    refine ⟨?_, hb4'⟩
    have e := FD.out k hkn (by
      rcases H1.out with h | h
      · exact .inl h
      · exact .inr (by simpa using h)) (by
      rcases H2.out with h | h
      · exact .inl h
      · exact .inr (by simpa using h))
    exact ret_int (by rw [← e, Int.natCast_add])
end Go.Proofs.YtkbncdcphohmiaaGreatDoor

/- Quotient and remainder of numbers in limbs; the greatest common divisor. -/
set_option linter.unusedSimpArgs false
set_option linter.unusedVariables false
namespace Go.Proofs.YtkbncdcphohmiaaGreatDoor
open Go.RowKit
set_option maxRecDepth 100000

theorem OwnZ.keep {w w' : World} {B g c : Nat} {l : List Int} (h : OwnZ w B g c l) (hb : Below w.heap.size w w') : OwnZ w' B g c l := by
  unfold OwnZ at h ⊢
  exact World.ownsRow.kept h (row := none) ⟨hb.os, hb.tape, hb.output, hb.size, fun i hi _ => hb.block i hi⟩ (.inr (by simp [Value.ownBlock]))

/-- What was concatenated, trimmed: the number. -/
theorem OwnZ.lim {w : World} {B g c : Nat} {p : List Nat} (h : OwnZ w B g c (p.map fun d : Nat => (d : Int))) (hp : ∀ d ∈ p, d < 1000000) : Ints w w.heap.size (some ⟨g, 0, none⟩) (Na.lim (Na.lv p)) := by
  have h1 := Na.lim_take p hp
  have h2 := (h.ints (p := p) rfl).take (Na.lim (Na.lv p)).length
  rwa [← h1] at h2

theorem ints_drop {w : World} {B : Nat} {ad : Addr} {l : List Nat} (h : Ints w B (some ad) l) (k : Nat) : Ints w B (some (ad.add k)) (l.drop k) := by
  intro j hj
  rw [List.length_drop] at hj
  obtain ⟨ad', e, h1, h2⟩ := h (k + j) (by omega)
  cases e
  refine ⟨_, rfl, ?_, ?_⟩
  · unfold Addr.add
    split <;> exact h1
  · rw [Addr.add_add, h2, List.getD_eq_getElem?_getD, List.getD_eq_getElem?_getD, List.getElem?_drop]

theorem Ints.set {w : World} {g g2 : Nat} {l : List Nat} (h : Ints w w.heap.size (some ⟨g2, 0, none⟩) l) (hne : g2 ≠ g) (i : Nat) (v : Value) : Ints (w.setCell ⟨g, i, none⟩ v) (w.setCell ⟨g, i, none⟩ v).heap.size (some ⟨g2, 0, none⟩) l := by
  intro k hk
  obtain ⟨ad', e, h1, h2⟩ := h k hk
  cases e
  refine ⟨_, rfl, ?_, ?_⟩
  · have : (w.setCell ⟨g, i, none⟩ v).heap.size = w.heap.size := by simp
    rw [this]
    exact h1
  · have e : ((⟨g2, 0, none⟩ : Addr).add k).block = g2 := by
      unfold Addr.add
      split <;> rfl
    have hh : (w.setCell ⟨g, i, none⟩ v).heap[g2]? = w.heap[g2]? := heap_setCell_other w ⟨g, i, none⟩ g2 v hne
    rw [← h2]
    unfold World.cell?
    rw [e, hh]

def GivesQ (m n : Nat) (w : World) (e : Ending) (w' : World) : Prop :=
  ∃ Aq cq Ar cr, e = .returned (.tuple #[.slice Aq (Na.lim (m / n)).length cq, .slice Ar (Na.lim (m % n)).length cr]) ∧ Ints w' w'.heap.size Aq (Na.lim (m / n)) ∧ (Na.lim (m / n)).length ≤ cq ∧ cq ≤ maxLen ∧ Ints w' w'.heap.size Ar (Na.lim (m % n)) ∧ (Na.lim (m % n)).length ≤ cr ∧ cr ≤ maxLen ∧ Below w.heap.size w w'

set_option maxHeartbeats 1000000 in
theorem divided_any (A A' : Option Addr) (m n c c' : Nat) (w : World) (hs : Ints w w.heap.size A (Na.lim m)) (hs' : Ints w w.heap.size A' (Na.lim n)) (hl : (Na.lim m).length ≤ 60) (hl' : (Na.lim n).length ≤ 60) (hc : (Na.lim m).length ≤ c) (hcm : c ≤ maxLen) (hc' : (Na.lim n).length ≤ c') (hcm' : c' ≤ maxLen) (hn : 0 < n) :
    Calls Tryz.prog 116 #[.slice A (Na.lim m).length c, .slice A' (Na.lim n).length c'] w (GivesQ m n w) := by
  unfold GivesQ
  by_cases hlt : (Na.lim m).length < (Na.lim n).length
  · have hmn := Na.lim_longer hlt
    rw [Nat.div_eq_of_lt hmn, Nat.mod_eq_of_lt hmn, Na.lim_zero]
    have HS := Lib.hid hs
    clear hs hs'
    go_enter Tryz.func116, Tryz.ntmps116
    go_wp2
    go_ret2
    exact ⟨none, 0, A, c, rfl, fun k hk => absurd hk (by simp), by simp, by simp [maxLen], HS.out, hc, hcm, Below.refl _ _⟩
  · have hb1 : 1 ≤ (Na.lim n).length := by
      rcases Nat.eq_zero_or_pos (Na.lim n).length with h | h
      · have := Na.lim_nil.1 (List.eq_nil_of_length_eq_zero h); omega
      · exact h
    obtain ⟨ad, rfl, _, _⟩ := hs 0 (by omega)
    obtain ⟨C, hC⟩ : ∃ C, C = (Na.lim m).length - (Na.lim n).length + 1 := ⟨_, rfl⟩
    have hCi : ((Na.lim m).length : Int) - ((Na.lim n).length : Int) + 1 = (C : Int) := by omega
    have hC1 : 1 ≤ C := by omega
    have hC60 : C ≤ 60 := by omega
    have hCl : C ≤ (Na.lim m).length := by omega
    have hCc : C ≤ c := by omega
    have HCi := Lib.hid hCi
    have HS := Lib.hid hs
    have HS' := Lib.hid hs'
    unfold maxLen at hcm hcm'
    clear hs hs' hCi hC
    by_cases hcC : ¬ c = (Na.lim m).length - (Na.lim n).length + 1
    · go_enter Tryz.func116, Tryz.ntmps116
      go_wp2_with (first
        | (at_make
           refine list_make rfl (.tmp 20) (.tmp 20) 118 rfl rfl C (by omega) (by show Value.int .i64 _ = _; rw [← HCi.out]) (by show Value.int .i64 _ = _; rw [← HCi.out]) ?_
           intro w1 hh1 hb1
           have HH1 := Lib.hid hh1
           clear hh1)
        | fail)
      generalize hr0 : Value.slice (some (ad.add ((Na.lim m).length - (Na.lim n).length + 1))) ((Na.lim m).length - ((Na.lim m).length - (Na.lim n).length + 1)) (c - ((Na.lim m).length - (Na.lim n).length + 1)) = r0
      have HR0 := Lib.hid hr0
      clear hr0
      go_loopw [5, 7] (fun r i wr => ∃ (j R : Nat) (Ar : Option Addr) (cr : Nat) (ql : List Nat), j ≤ C ∧ i = .int .i64 ((j : Int) - 1) ∧ r = .slice Ar (Na.lim R).length cr ∧ Hid (Ints wr wr.heap.size Ar (Na.lim R)) ∧ (Na.lim R).length ≤ cr ∧ cr ≤ maxLen ∧ Hid (R < n) ∧ Hid (ql.length = C) ∧ Hid (∀ d ∈ ql, d < 1000000) ∧ Hid (OwnZ wr w.heap.size w.heap.size C (ql.map fun d : Nat => (d : Int))) ∧ Hid (Na.lv ((Na.lim m).drop j) = Na.lv (ql.drop j) * n + R) ∧ Below w.heap.size w wr) (fun _ i _ => (intOf i + 1).toNat)
      case atStart =>
        refine ⟨C, Na.lv ((Na.lim m).drop C), some (ad.add C), c - C, List.replicate C 0, Nat.le_refl _, ?_, ?_, Lib.hid ?_, ?_, ?_, Lib.hid ?_, Lib.hid (by simp), Lib.hid ?_, Lib.hid ?_, Lib.hid ?_, hb1⟩
        · congr 1; have := HCi.out; omega
        · have hCe : (Na.lim m).length - (Na.lim n).length + 1 = C := by have := HCi.out; omega
          rw [← HR0.out, Na.lim_drop, List.length_drop, hCe]
          skip
        · rw [Na.lim_drop]
          exact (ints_drop (HS.out.bt hb1) C)
        · rw [Na.lim_drop, List.length_drop]; have := HCi.out; omega
        · unfold maxLen; omega
        · refine Na.lim_longer ?_
          rw [Na.lim_drop, List.length_drop]; have := HCi.out; omega
        · intro d hd; have := (List.mem_replicate.1 hd).2; omega
        · have := own_of_row HH1.out (Nat.le_refl _) (by rw [List.length_replicate]; unfold maxLen; omega)
          rw [List.length_replicate] at this
          simpa using this
        · rw [show (List.replicate C 0).drop C = [] by simp, Na.lv_nil]; omega
      case round =>
        clear HH1 hb1 HR0
        obtain ⟨j, R, Ar, cr, ql, hj, eij, rfl, HR, hcr, hcrm, HRn, HQL, HQD, HO, HE, hb⟩ := hrel
        by_cases h0 : j = 0
        · subst h0
          subst eij
          have he : Na.lv (Na.lim m) = Na.lv ql * n + R := HE.out
          rw [Na.lv_lim] at he
          have hqr := Na.quot_rem m n (Na.lv ql) R he HRn.out
          have TR := trimmed_any (some ⟨w.heap.size, 0, none⟩) ql C wr (HO.out.ints rfl) (by rw [HQL.out]; omega) (by rw [HQL.out]; omega) (by unfold maxLen; omega) HQD.out
          rw [HQL.out] at TR
          have HI := Lib.hid (HO.out.lim HQD.out)
          have hqc : (Na.lim (Na.lv ql)).length ≤ C := by
            have := Na.lim_take ql HQD.out
            rw [this, List.length_take, HQL.out]
            omega
          rw [← hqr.1] at TR HI hqc
          have HR2 := HR
          rw [← hqr.2] at hcr HR2
          have HRe := Lib.hid hqr.2
          have HTR := Lib.hid TR
          clear hqr he TR HO HE HQL HQD HR
          go_wp2_with fail
          refine HTR.out.mono ?_
          rintro e w3 ⟨rfl, rfl⟩
          go_wp2_with fail
          go_ret2
          refine ⟨some ⟨w.heap.size, 0, none⟩, C, Ar, cr, ?_, HI.out, hqc, by unfold maxLen; omega, HR2.out, hcr, hcrm, hb⟩
          rw [HRe.out]
          rfl
        · obtain ⟨i, rfl⟩ : ∃ i, j = i + 1 := ⟨j - 1, by omega⟩
          obtain rfl := eij.trans (show Value.int .i64 (((i + 1 : Nat) : Int) - 1) = .int .i64 (i : Int) by congr 1; omega)
          clear eij
          have hila : i < (Na.lim m).length := by omega
          obtain ⟨ad', e, _, hcx⟩ := (HS.out.bt hb) i hila
          cases e
          have hxl := Na.getD_lt (Na.lim_lt m) i hila
          obtain ⟨x, hx⟩ : ∃ x, x = (Na.lim m).getD i 0 := ⟨_, rfl⟩
          rw [← hx] at hcx hxl
          have RE := Lib.hid (Na.round_eq m n i R x (Na.lv (ql.drop (i + 1))) HE.out hx hila hn)
          obtain ⟨l1, l2, l3⟩ := Na.round_lt n R x HRn.out hxl
          have hRl : (Na.lim R).length ≤ 61 := by
            have : (Na.lim R).length ≤ (Na.lim n).length := Na.lim_length.2 (Nat.lt_trans HRn.out (Na.lim_length.1 (Nat.le_refl _)))
            omega
          have hR'l : (Na.lim (x + 1000000 * R)).length ≤ 61 := by
            refine Nat.le_trans ((Na.lim_length (k := (Na.lim n).length + 1)).2 ?_) (by omega)
            rw [Nat.pow_succ]
            have := Na.lim_length.1 (Nat.le_refl (Na.lim n).length)
            omega
          have hle : n * ((x + 1000000 * R) / n) ≤ x + 1000000 * R := Nat.mul_div_le _ _
          obtain ⟨X1, hX1⟩ : ∃ X1, X1 = wr.alloc (.cells #[.int .i64 (x : Int)] 3) := ⟨_, rfl⟩
          obtain ⟨X2, hX2⟩ : ∃ X2, X2 = X1.alloc (.cells #[.slice (some ⟨wr.heap.size, 0, none⟩) 1 1, .slice Ar (Na.lim R).length cr] 118) := ⟨_, rfl⟩
          have hz1 : X1.heap.size = wr.heap.size + 1 := by rw [hX1]; exact Array.size_push ..
          have hbX1 : Below wr.heap.size wr X1 := by rw [hX1]; exact (Below.refl _ _).alloc (Nat.le_refl _) _
          have hb12 : Below X1.heap.size X1 X2 := by rw [hX2]; exact (Below.refl _ _).alloc (Nat.le_refl _) _
          have hbX : Below wr.heap.size wr X2 := Nb hbX1 hb12
          have hx0 : X2.heap[wr.heap.size + 1]? = some (.cells #[.slice (some ⟨wr.heap.size, 0, none⟩) 1 1, .slice Ar (Na.lim R).length cr] 118 (0, 0)) := by
            rw [hX2, ← hz1]; exact heap_alloc_new _ _
          have hx1 : Ints X1 X1.heap.size (some ⟨wr.heap.size, 0, none⟩) [x] := box_ints (by rw [hX1]; exact heap_alloc_new _ _)
          have CC := Lib.hid (concat_any (wr.heap.size + 1) ⟨wr.heap.size, 0, none⟩ Ar x (Na.lim R) cr X2 (by simp [World.cell?, hx0]) (by simp [World.cell?, hx0]) (Array.getElem?_eq_some_iff.1 hx0).1 (hx1.bt hb12) (HR.out.bt hbX) (by omega))
          have hXs : wr.heap.size + 1 < X2.heap.size := (Array.getElem?_eq_some_iff.1 hx0).1
          have HX1 := Lib.hid hX1
          have HX2 := Lib.hid hX2
          have TR := Lib.hid (fun (W : World) (g2 cap2 : Nat) (ho : OwnZ W X2.heap.size g2 cap2 ((x :: Na.lim R).map fun d : Nat => (d : Int))) => by
            have h1 : ∀ d ∈ x :: Na.lim R, d < 1000000 := by
              intro d hd
              rcases List.mem_cons.1 hd with rfl | hd
              · exact hxl
              · exact Na.lim_lt R d hd
            have hll : (x :: Na.lim R).length = 1 + (Na.lim R).length := by simp; omega
            have hf := ho.facts
            have t1 := trimmed_any (some ⟨g2, 0, none⟩) (x :: Na.lim R) cap2 W (ho.ints rfl) (by rw [hll]; omega) (by simpa using hf.2.2.1) hf.2.2.2 h1
            have t2 := ho.lim h1
            have e : Na.lv (x :: Na.lim R) = x + 1000000 * R := by rw [Na.lv_cons, Na.lv_lim]
            rw [e] at t1 t2
            rw [hll] at t1
            exact And.intro t1 t2)
          have HRE := Lib.hid (And.intro l3 hle)
          have HIL := Lib.hid hila
          clear hX1 hX2 hx0 hx1 hbX1 hb12 hx hz1 HE hxl
          have hiC : i < C := by omega
          have hiCi : (i : Int) < (C : Int) := by omega
          generalize x + 1000000 * R = R' at *
          go_wp2_with fail
          rw [← HX1.out, ← HX2.out]
          refine CC.out.mono ?_
          rintro e w2 ⟨g2, cap2, rfl, ho2, hb2⟩
          have T2 := TR.out w2 g2 cap2 ho2
          have HT1 := Lib.hid T2.1
          have HT2 := Lib.hid T2.2
          have hcap2 := ho2.facts.2.2
          have hg2X : w.heap.size < g2 := by
            have h1 := ho2.facts.1
            have h2 := hb.size
            have h3 := hXs
            omega
          have hbw2 : Below wr.heap.size wr w2 := Nb hbX hb2
          clear T2 ho2 CC TR HX1 HX2 HR
          go_wp2_with fail
          refine HT1.out.mono ?_
          rintro e w2' ⟨rfl, rfl⟩
          have hbww := Nb hb hbw2
          have QC := Lib.hid (quotient_any (some ⟨g2, 0, none⟩) A' R' n cap2 c' w2 HT2.out (HS'.out.bt hbww) hl' hn l1)
          clear HT1
          go_wp2_with fail
          refine QC.out.mono ?_
          rintro e w3 ⟨rfl, hb3⟩
          have hb3w := Nb hbww hb3
          have HO3 := Lib.hid (HO.out.keep (Nb hbw2 hb3))
          have hfr := HO3.out.frozen i
          have hcl3 := HO3.out.cell i (by rw [List.length_map, HQL.out]; exact hiC)
          have HI3 := Lib.hid (HT2.out.bt hb3)
          have HO4 := Lib.hid (HO3.out.stored i ((R' / n : Nat) : Int))
          have HB4 := Lib.hid (HO3.out.below (Below.refl w.heap.size w3) i ((R' / n : Nat) : Int))
          have hszs : (w3.setCell ⟨w.heap.size, i, none⟩ (.int .i64 ((R' / n : Nat) : Int))).heap.size = w3.heap.size := by simp
          clear QC HO HT2
          generalize hqd : R' / n = qd at *
          have hg2 : g2 ≠ w.heap.size := by have := hg2X; omega
          obtain ⟨w4, hw4⟩ : ∃ w4, w4 = w3.setCell ⟨w.heap.size, i, none⟩ (.int .i64 (qd : Int)) := ⟨_, rfl⟩
          have HI4 := Lib.hid (HI3.out.set hg2 i (.int .i64 (qd : Int)))
          rw [← hw4] at HI4 HO4 HB4 hszs
          obtain ⟨X5, hX5⟩ : ∃ X5, X5 = w4.alloc (.cells #[.int .i64 (qd : Int)] 3) := ⟨_, rfl⟩
          have hb5 : Below w4.heap.size w4 X5 := by rw [hX5]; exact (Below.refl _ _).alloc (Nat.le_refl _) _
          have hbx : X5.heap[w3.heap.size]? = some (.cells #[.int .i64 (qd : Int)] 3 (0, 0)) := by rw [hX5, ← hszs]; exact heap_alloc_new _ _
          have hbw4 : Below w.heap.size w w4 := hb3w.trans HB4.out
          have hbw5 : Below w.heap.size w X5 := hbw4.trans (hb5.mono hbw4.size)
          have TI : Hid (Calls Tryz.prog 130 #[.slice A' (Na.lim n).length c', .slice (some ⟨w3.heap.size, 0, none⟩) 1 1] X5 (GivesN (n * qd) X5)) := by
            refine Lib.hid ?_
            have e0 : Na.lv (Na.lim n) * Na.lv [qd] = n * qd := by rw [Na.lv_lim, Na.lv_cons, Na.lv_nil]; simp
            have hnt : n * qd < 1000000 ^ ((Na.lim n).length + 1) := by
              rw [Nat.pow_succ]
              have := Na.lim_length.1 (Nat.le_refl (Na.lim n).length)
              omega
            have := times_any A' (some ⟨w3.heap.size, 0, none⟩) (Na.lim n) [qd] c' 1 X5 (HS'.out.bt hbw5) (box_ints hbx) (by omega) (by simp) (fun d hd => by have := Na.lim_lt n d hd; omega) (fun d hd => by rw [show d = qd by simpa using hd]; omega) (by rw [e0]; simpa using hnt)
            rwa [e0] at this
          have HW4 := Lib.hid hw4
          have HX5 := Lib.hid hX5
          clear hX5 hw4 hszs hbx
          go_wp2_with fail
          rw [← HW4.out, ← HX5.out]
          refine TI.out.mono ?_
          rintro e w6 ⟨A6, c6, rfl, hi6, hc6, hcm6, hb6⟩
          have MI := Lib.hid (minus_any (some ⟨g2, 0, none⟩) A6 R' (n * qd) cap2 c6 w6 ((HI4.out.bt hb5).bt hb6) hi6 (by omega) hcap2.2 hle)
          clear hi6
          go_wp2_with fail
          refine MI.out.mono ?_
          rintro e w7 ⟨A7, c7, rfl, hi7, hc7, hcm7, hb7⟩
          have hb47 : Below w4.heap.size w4 w7 := Nb (Nb hb5 hb6) hb7
          have HI7 := Lib.hid hi7
          have HO7 := Lib.hid (HO4.out.keep hb47)
          clear hi7 HO4 MI TI HX5 HW4
          go_wp2_with fail
          refine ⟨⟨i, R' - n * qd, A7, c7, ql.set i qd, by omega, by go_num, rfl, HI7, hc7, hcm7, Lib.hid HRE.out.1, Lib.hid (by rw [List.length_set]; exact HQL.out), Lib.hid ?_, Lib.hid ?_, Lib.hid ?_, hbw4.trans (hb47.mono hbw4.size)⟩, by simp [intOf]⟩
          · intro d hd
            rcases List.mem_or_eq_of_mem_set hd with h | h
            · exact HQD.out d h
            · omega
          · rw [List.map_set]
            exact HO7.out
          · rw [Na.lv_set_drop ql i qd (by rw [HQL.out]; exact hiC)]
            exact RE.out
    · have hcC' : c = (Na.lim m).length - (Na.lim n).length + 1 := Classical.not_not.1 hcC
      clear hcC
      go_enter Tryz.func116, Tryz.ntmps116
      go_wp2_with (first
        | (at_make
           refine list_make rfl (.tmp 20) (.tmp 20) 118 rfl rfl C (by omega) (by show Value.int .i64 _ = _; rw [← HCi.out]) (by show Value.int .i64 _ = _; rw [← HCi.out]) ?_
           intro w1 hh1 hb1
           have HH1 := Lib.hid hh1
           clear hh1)
        | fail)
      generalize hr0 : Value.slice (some ad) ((Na.lim m).length - ((Na.lim m).length - (Na.lim n).length + 1)) ((Na.lim m).length - (Na.lim n).length + 1 - ((Na.lim m).length - (Na.lim n).length + 1)) = r0
      have HR0 := Lib.hid hr0
      clear hr0
      go_loopw [5, 7] (fun r i wr => ∃ (j R : Nat) (Ar : Option Addr) (cr : Nat) (ql : List Nat), j ≤ C ∧ i = .int .i64 ((j : Int) - 1) ∧ r = .slice Ar (Na.lim R).length cr ∧ Hid (Ints wr wr.heap.size Ar (Na.lim R)) ∧ (Na.lim R).length ≤ cr ∧ cr ≤ maxLen ∧ Hid (R < n) ∧ Hid (ql.length = C) ∧ Hid (∀ d ∈ ql, d < 1000000) ∧ Hid (OwnZ wr w.heap.size w.heap.size C (ql.map fun d : Nat => (d : Int))) ∧ Hid (Na.lv ((Na.lim m).drop j) = Na.lv (ql.drop j) * n + R) ∧ Below w.heap.size w wr) (fun _ i _ => (intOf i + 1).toNat)
      case atStart =>
        refine ⟨C, Na.lv ((Na.lim m).drop C), some ad, 0, List.replicate C 0, Nat.le_refl _, ?_, ?_, Lib.hid ?_, ?_, ?_, Lib.hid ?_, Lib.hid (by simp), Lib.hid ?_, Lib.hid ?_, Lib.hid ?_, hb1⟩
        · congr 1; have := HCi.out; omega
        · have hCe : (Na.lim m).length - (Na.lim n).length + 1 = C := by have := HCi.out; omega
          rw [← HR0.out, Na.lim_drop, List.length_drop, hCe]
          simp
        · rw [Na.lim_drop]
          intro k hk; rw [List.length_drop] at hk; have := HCi.out; omega
        · rw [Na.lim_drop, List.length_drop]; have := HCi.out; omega
        · unfold maxLen; omega
        · refine Na.lim_longer ?_
          rw [Na.lim_drop, List.length_drop]; have := HCi.out; omega
        · intro d hd; have := (List.mem_replicate.1 hd).2; omega
        · have := own_of_row HH1.out (Nat.le_refl _) (by rw [List.length_replicate]; unfold maxLen; omega)
          rw [List.length_replicate] at this
          simpa using this
        · rw [show (List.replicate C 0).drop C = [] by simp, Na.lv_nil]; omega
      case round =>
        clear HH1 hb1 HR0
        obtain ⟨j, R, Ar, cr, ql, hj, eij, rfl, HR, hcr, hcrm, HRn, HQL, HQD, HO, HE, hb⟩ := hrel
        by_cases h0 : j = 0
        · subst h0
          subst eij
          have he : Na.lv (Na.lim m) = Na.lv ql * n + R := HE.out
          rw [Na.lv_lim] at he
          have hqr := Na.quot_rem m n (Na.lv ql) R he HRn.out
          have TR := trimmed_any (some ⟨w.heap.size, 0, none⟩) ql C wr (HO.out.ints rfl) (by rw [HQL.out]; omega) (by rw [HQL.out]; omega) (by unfold maxLen; omega) HQD.out
          rw [HQL.out] at TR
          have HI := Lib.hid (HO.out.lim HQD.out)
          have hqc : (Na.lim (Na.lv ql)).length ≤ C := by
            have := Na.lim_take ql HQD.out
            rw [this, List.length_take, HQL.out]
            omega
          rw [← hqr.1] at TR HI hqc
          have HR2 := HR
          rw [← hqr.2] at hcr HR2
          have HRe := Lib.hid hqr.2
          have HTR := Lib.hid TR
          clear hqr he TR HO HE HQL HQD HR
          go_wp2_with fail
          refine HTR.out.mono ?_
          rintro e w3 ⟨rfl, rfl⟩
          go_wp2_with fail
          go_ret2
          refine ⟨some ⟨w.heap.size, 0, none⟩, C, Ar, cr, ?_, HI.out, hqc, by unfold maxLen; omega, HR2.out, hcr, hcrm, hb⟩
          rw [HRe.out]
          rfl
        · obtain ⟨i, rfl⟩ : ∃ i, j = i + 1 := ⟨j - 1, by omega⟩
          obtain rfl := eij.trans (show Value.int .i64 (((i + 1 : Nat) : Int) - 1) = .int .i64 (i : Int) by congr 1; omega)
          clear eij
          have hila : i < (Na.lim m).length := by omega
          obtain ⟨ad', e, _, hcx⟩ := (HS.out.bt hb) i hila
          cases e
          have hxl := Na.getD_lt (Na.lim_lt m) i hila
          obtain ⟨x, hx⟩ : ∃ x, x = (Na.lim m).getD i 0 := ⟨_, rfl⟩
          rw [← hx] at hcx hxl
          have RE := Lib.hid (Na.round_eq m n i R x (Na.lv (ql.drop (i + 1))) HE.out hx hila hn)
          obtain ⟨l1, l2, l3⟩ := Na.round_lt n R x HRn.out hxl
          have hRl : (Na.lim R).length ≤ 61 := by
            have : (Na.lim R).length ≤ (Na.lim n).length := Na.lim_length.2 (Nat.lt_trans HRn.out (Na.lim_length.1 (Nat.le_refl _)))
            omega
          have hR'l : (Na.lim (x + 1000000 * R)).length ≤ 61 := by
            refine Nat.le_trans ((Na.lim_length (k := (Na.lim n).length + 1)).2 ?_) (by omega)
            rw [Nat.pow_succ]
            have := Na.lim_length.1 (Nat.le_refl (Na.lim n).length)
            omega
          have hle : n * ((x + 1000000 * R) / n) ≤ x + 1000000 * R := Nat.mul_div_le _ _
          obtain ⟨X1, hX1⟩ : ∃ X1, X1 = wr.alloc (.cells #[.int .i64 (x : Int)] 3) := ⟨_, rfl⟩
          obtain ⟨X2, hX2⟩ : ∃ X2, X2 = X1.alloc (.cells #[.slice (some ⟨wr.heap.size, 0, none⟩) 1 1, .slice Ar (Na.lim R).length cr] 118) := ⟨_, rfl⟩
          have hz1 : X1.heap.size = wr.heap.size + 1 := by rw [hX1]; exact Array.size_push ..
          have hbX1 : Below wr.heap.size wr X1 := by rw [hX1]; exact (Below.refl _ _).alloc (Nat.le_refl _) _
          have hb12 : Below X1.heap.size X1 X2 := by rw [hX2]; exact (Below.refl _ _).alloc (Nat.le_refl _) _
          have hbX : Below wr.heap.size wr X2 := Nb hbX1 hb12
          have hx0 : X2.heap[wr.heap.size + 1]? = some (.cells #[.slice (some ⟨wr.heap.size, 0, none⟩) 1 1, .slice Ar (Na.lim R).length cr] 118 (0, 0)) := by
            rw [hX2, ← hz1]; exact heap_alloc_new _ _
          have hx1 : Ints X1 X1.heap.size (some ⟨wr.heap.size, 0, none⟩) [x] := box_ints (by rw [hX1]; exact heap_alloc_new _ _)
          have CC := Lib.hid (concat_any (wr.heap.size + 1) ⟨wr.heap.size, 0, none⟩ Ar x (Na.lim R) cr X2 (by simp [World.cell?, hx0]) (by simp [World.cell?, hx0]) (Array.getElem?_eq_some_iff.1 hx0).1 (hx1.bt hb12) (HR.out.bt hbX) (by omega))
          have hXs : wr.heap.size + 1 < X2.heap.size := (Array.getElem?_eq_some_iff.1 hx0).1
          have HX1 := Lib.hid hX1
          have HX2 := Lib.hid hX2
          have TR := Lib.hid (fun (W : World) (g2 cap2 : Nat) (ho : OwnZ W X2.heap.size g2 cap2 ((x :: Na.lim R).map fun d : Nat => (d : Int))) => by
            have h1 : ∀ d ∈ x :: Na.lim R, d < 1000000 := by
              intro d hd
              rcases List.mem_cons.1 hd with rfl | hd
              · exact hxl
              · exact Na.lim_lt R d hd
            have hll : (x :: Na.lim R).length = 1 + (Na.lim R).length := by simp; omega
            have hf := ho.facts
            have t1 := trimmed_any (some ⟨g2, 0, none⟩) (x :: Na.lim R) cap2 W (ho.ints rfl) (by rw [hll]; omega) (by simpa using hf.2.2.1) hf.2.2.2 h1
            have t2 := ho.lim h1
            have e : Na.lv (x :: Na.lim R) = x + 1000000 * R := by rw [Na.lv_cons, Na.lv_lim]
            rw [e] at t1 t2
            rw [hll] at t1
            exact And.intro t1 t2)
          have HRE := Lib.hid (And.intro l3 hle)
          have HIL := Lib.hid hila
          clear hX1 hX2 hx0 hx1 hbX1 hb12 hx hz1 HE hxl
          have hiC : i < C := by omega
          have hiCi : (i : Int) < (C : Int) := by omega
          generalize x + 1000000 * R = R' at *
          go_wp2_with fail
          rw [← HX1.out, ← HX2.out]
          refine CC.out.mono ?_
          rintro e w2 ⟨g2, cap2, rfl, ho2, hb2⟩
          have T2 := TR.out w2 g2 cap2 ho2
          have HT1 := Lib.hid T2.1
          have HT2 := Lib.hid T2.2
          have hcap2 := ho2.facts.2.2
          have hg2X : w.heap.size < g2 := by
            have h1 := ho2.facts.1
            have h2 := hb.size
            have h3 := hXs
            omega
          have hbw2 : Below wr.heap.size wr w2 := Nb hbX hb2
          clear T2 ho2 CC TR HX1 HX2 HR
          go_wp2_with fail
          refine HT1.out.mono ?_
          rintro e w2' ⟨rfl, rfl⟩
          have hbww := Nb hb hbw2
          have QC := Lib.hid (quotient_any (some ⟨g2, 0, none⟩) A' R' n cap2 c' w2 HT2.out (HS'.out.bt hbww) hl' hn l1)
          clear HT1
          go_wp2_with fail
          refine QC.out.mono ?_
          rintro e w3 ⟨rfl, hb3⟩
          have hb3w := Nb hbww hb3
          have HO3 := Lib.hid (HO.out.keep (Nb hbw2 hb3))
          have hfr := HO3.out.frozen i
          have hcl3 := HO3.out.cell i (by rw [List.length_map, HQL.out]; exact hiC)
          have HI3 := Lib.hid (HT2.out.bt hb3)
          have HO4 := Lib.hid (HO3.out.stored i ((R' / n : Nat) : Int))
          have HB4 := Lib.hid (HO3.out.below (Below.refl w.heap.size w3) i ((R' / n : Nat) : Int))
          have hszs : (w3.setCell ⟨w.heap.size, i, none⟩ (.int .i64 ((R' / n : Nat) : Int))).heap.size = w3.heap.size := by simp
          clear QC HO HT2
          generalize hqd : R' / n = qd at *
          have hg2 : g2 ≠ w.heap.size := by have := hg2X; omega
          obtain ⟨w4, hw4⟩ : ∃ w4, w4 = w3.setCell ⟨w.heap.size, i, none⟩ (.int .i64 (qd : Int)) := ⟨_, rfl⟩
          have HI4 := Lib.hid (HI3.out.set hg2 i (.int .i64 (qd : Int)))
          rw [← hw4] at HI4 HO4 HB4 hszs
          obtain ⟨X5, hX5⟩ : ∃ X5, X5 = w4.alloc (.cells #[.int .i64 (qd : Int)] 3) := ⟨_, rfl⟩
          have hb5 : Below w4.heap.size w4 X5 := by rw [hX5]; exact (Below.refl _ _).alloc (Nat.le_refl _) _
          have hbx : X5.heap[w3.heap.size]? = some (.cells #[.int .i64 (qd : Int)] 3 (0, 0)) := by rw [hX5, ← hszs]; exact heap_alloc_new _ _
          have hbw4 : Below w.heap.size w w4 := hb3w.trans HB4.out
          have hbw5 : Below w.heap.size w X5 := hbw4.trans (hb5.mono hbw4.size)
          have TI : Hid (Calls Tryz.prog 130 #[.slice A' (Na.lim n).length c', .slice (some ⟨w3.heap.size, 0, none⟩) 1 1] X5 (GivesN (n * qd) X5)) := by
            refine Lib.hid ?_
            have e0 : Na.lv (Na.lim n) * Na.lv [qd] = n * qd := by rw [Na.lv_lim, Na.lv_cons, Na.lv_nil]; simp
            have hnt : n * qd < 1000000 ^ ((Na.lim n).length + 1) := by
              rw [Nat.pow_succ]
              have := Na.lim_length.1 (Nat.le_refl (Na.lim n).length)
              omega
            have := times_any A' (some ⟨w3.heap.size, 0, none⟩) (Na.lim n) [qd] c' 1 X5 (HS'.out.bt hbw5) (box_ints hbx) (by omega) (by simp) (fun d hd => by have := Na.lim_lt n d hd; omega) (fun d hd => by rw [show d = qd by simpa using hd]; omega) (by rw [e0]; simpa using hnt)
            rwa [e0] at this
          have HW4 := Lib.hid hw4
          have HX5 := Lib.hid hX5
          clear hX5 hw4 hszs hbx
          go_wp2_with fail
          rw [← HW4.out, ← HX5.out]
          refine TI.out.mono ?_
          rintro e w6 ⟨A6, c6, rfl, hi6, hc6, hcm6, hb6⟩
          have MI := Lib.hid (minus_any (some ⟨g2, 0, none⟩) A6 R' (n * qd) cap2 c6 w6 ((HI4.out.bt hb5).bt hb6) hi6 (by omega) hcap2.2 hle)
          clear hi6
          go_wp2_with fail
          refine MI.out.mono ?_
          rintro e w7 ⟨A7, c7, rfl, hi7, hc7, hcm7, hb7⟩
          have hb47 : Below w4.heap.size w4 w7 := Nb (Nb hb5 hb6) hb7
          have HI7 := Lib.hid hi7
          have HO7 := Lib.hid (HO4.out.keep hb47)
          clear hi7 HO4 MI TI HX5 HW4
          go_wp2_with fail
          refine ⟨⟨i, R' - n * qd, A7, c7, ql.set i qd, by omega, by go_num, rfl, HI7, hc7, hcm7, Lib.hid HRE.out.1, Lib.hid (by rw [List.length_set]; exact HQL.out), Lib.hid ?_, Lib.hid ?_, Lib.hid ?_, hbw4.trans (hb47.mono hbw4.size)⟩, by simp [intOf]⟩
          · intro d hd
            rcases List.mem_or_eq_of_mem_set hd with h | h
            · exact HQD.out d h
            · omega
          · rw [List.map_set]
            exact HO7.out
          · rw [Na.lv_set_drop ql i qd (by rw [HQL.out]; exact hiC)]
            exact RE.out
end Go.Proofs.YtkbncdcphohmiaaGreatDoor
