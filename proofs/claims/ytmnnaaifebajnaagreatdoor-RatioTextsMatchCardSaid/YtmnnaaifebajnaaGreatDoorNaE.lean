/- Products of numbers in limbs. -/
import Derived.Test.YtmnnaaifebajnaaGreatDoorNaD
set_option linter.unusedSimpArgs false
set_option linter.unusedVariables false
namespace Go.Proofs.YtmnnaaifebajnaaGreatDoor
open Go.RowKit
set_option maxRecDepth 100000

theorem mul_wrap (x y p : Nat) (z : Int) (h : p = x * y) (hp : p < 9223372036854775808) (hz : 0 ≤ z + (p : Int) ∧ z + (p : Int) ≤ 20000000000000000) : wrap64 (z + wrap64 ((x : Int) * (y : Int))) = z + (p : Int) := by
  have hxi : ((x : Int) * (y : Int)) = (p : Int) := by rw [h]; simp
  have hw : wrap64 ((x : Int) * (y : Int)) = (p : Int) := by rw [hxi]; unfold wrap64; omega
  rw [hw]
  unfold wrap64
  omega

theorem mul_bound {i la j lb : Nat} (hi : i < la) (hj : j < lb) (hla : la ≤ 100) (hlb : lb ≤ 100) : i * lb + j + 1 ≤ 10000 := by
  have h1 : i * lb ≤ 99 * lb := Nat.mul_le_mul_right _ (by omega)
  omega

set_option maxHeartbeats 1000000 in
theorem times_any (A A' : Option Addr) (a b : List Nat) (c c' : Nat) (w : World) (hs : Ints w w.heap.size A a) (hs' : Ints w w.heap.size A' b) (hl : a.length ≤ 100) (hl' : b.length ≤ 100) (hd : ∀ d ∈ a, d < 1000001) (hd' : ∀ d ∈ b, d < 1000001) (hv : Na.lv a * Na.lv b < 1000000 ^ (a.length + b.length)) :
    Calls Tryz.prog 93 #[.slice A a.length c, .slice A' b.length c'] w (GivesN (Na.lv a * Na.lv b) w) := by
  have HS := Lib.hid hs
  have HS' := Lib.hid hs'
  have HD := Lib.hid hd
  have HD' := Lib.hid hd'
  unfold GivesN
  obtain ⟨N, hN⟩ : ∃ N : Nat, N = a.length + b.length := ⟨_, rfl⟩
  rw [← hN] at hv
  have HB := Lib.hid hv
  have hN3 : N ≤ 200 := by omega
  have HN := Lib.hid hN
  have hNi : ((a.length : Int) + (b.length : Int)) = (N : Int) := by omega
  have HNi := Lib.hid hNi
  clear hs hs' hd hd' hv hNi hN
  go_enter Tryz.func93, Tryz.ntmps93
  go_wp2_with (first
    | (at_make
       refine list_make rfl (.tmp 14) (.tmp 14) 71 rfl rfl N (by omega) (by show Value.int .i64 _ = _; rw [← HNi.out]) (by show Value.int .i64 _ = _; rw [← HNi.out]) ?_
       intro w1 hh1 hb1
       have HH1 := Lib.hid hh1
       clear hh1)
    | fail)
  have HO1 := Lib.hid (own_of_row HH1.out (Nat.le_refl _) (by rw [List.length_replicate]; unfold maxLen; omega))
  rw [List.length_replicate] at HO1
  clear HH1
  go_loopw [18] (fun i wr => ∃ (k : Nat) (L : List Int), k ≤ a.length ∧ i = .int .i64 (k : Int) ∧ Hid (L.length = N) ∧ Hid (Na.lz L = ((Na.lv (a.take k) * Na.lv b : Nat) : Int)) ∧ Hid (∀ z ∈ L, 0 ≤ z ∧ z ≤ 1000003000000 * ((k * b.length : Nat) : Int)) ∧ Hid (OwnZ wr w.heap.size w.heap.size N L) ∧ Below w.heap.size w wr) (fun i _ => a.length - (intOf i).toNat)
  case atStart =>
    refine ⟨0, List.replicate N 0, by omega, rfl, Lib.hid (by simp), Lib.hid ?_, Lib.hid ?_, Lib.hid HO1.out, hb1⟩
    · rw [Na.lz_zeros]; simp [Na.lv_nil]
    · intro z hz
      have := (List.mem_replicate.1 hz).2
      omega
  case round =>
    clear HO1
    obtain ⟨k, L, hk, rfl, HL, HV, HZ, HO, hb⟩ := hrel
    by_cases hlt : k < a.length
    · obtain ⟨ad, rfl, _, hca⟩ := (HS.out.bt hb) k hlt
      have hx := Na.getD_lt HD.out k hlt
      have HT := Lib.hid (Na.lv_take a k hlt)
      generalize a.getD k 0 = x at *
      go_wp2
      go_loopw [25] (fun i wr => ∃ (j : Nat) (L : List Int), j ≤ b.length ∧ i = .int .i64 (j : Int) ∧ Hid (L.length = N) ∧ Hid (Na.lz L = ((Na.lv (a.take k) * Na.lv b + 1000000 ^ k * (x * Na.lv (b.take j)) : Nat) : Int)) ∧ Hid (∀ z ∈ L, 0 ≤ z ∧ z ≤ 1000003000000 * ((k * b.length + j : Nat) : Int)) ∧ Hid (OwnZ wr w.heap.size w.heap.size N L) ∧ Below w.heap.size w wr) (fun i _ => b.length - (intOf i).toNat)
      case atStart => exact ⟨0, L, by omega, rfl, HL, Lib.hid (by rw [HV.out]; simp [Na.lv_nil]), HZ, HO, hb⟩
      case round =>
        clear HL HV HZ HO hb hca
        obtain ⟨j, L, hj, rfl, HL, HV, HZ, HO, hb⟩ := hrel
        by_cases hjt : j < b.length
        · obtain ⟨ad', rfl, _, hcb⟩ := (HS'.out.bt hb) j hjt
          have hkj : k + j < N := by have := HN.out; omega
          have hcell := HO.out.cell (k + j) (by rw [HL.out]; omega)
          have hfr := HO.out.frozen (k + j)
          have hz := HZ.out (L.getD (k + j) 0) (getD_mem (by rw [HL.out]; omega))
          have hmb := mul_bound hlt hjt hl hl'
          have hy := Na.getD_lt HD'.out j hjt
          have FIN := Lib.hid (fun u : Int => And.intro (HO.out.stored (k + j) u) (And.intro (HO.out.below hb (k + j) u) (Na.lz_set L (k + j) u (by rw [HL.out]; omega))))
          have HT' := Lib.hid (Na.lv_take b j hjt)
          generalize L.getD (k + j) 0 = z at *
          generalize b.getD j 0 = y at *
          have hxy : x * y ≤ 1000000 * 1000000 := Nat.mul_le_mul (by omega) (by omega)
          have hxi : ((x : Int) * (y : Int)) = ((x * y : Nat) : Int) := by simp
          obtain ⟨p, hp⟩ : ∃ p, p = x * y := ⟨_, rfl⟩
          have hP2 := Lib.hid hp
          rw [← hp] at hxy hxi
          have hP : z + (p : Int) ≤ 1000003000000 * ((k * b.length + (j + 1) : Nat) : Int) := by omega
          have hP0 : 0 ≤ z + (p : Int) ∧ z + (p : Int) ≤ 20000000000000000 := by omega
          have HP := Lib.hid hP
          have HW := Lib.hid (mul_wrap x y p z hp (by omega) hP0)
          clear HS HS' HB HN HNi hP hxi hp hxy hz hmb
          go_wp2
          rw [HW.out]
          have hf := FIN.out (z + (p : Int))
          have hle0 : k * b.length + j ≤ k * b.length + (j + 1) := by omega
          refine ⟨⟨j + 1, L.set (k + j) (z + (p : Int)), by omega, by go_num, Lib.hid (by rw [List.length_set]; exact HL.out), Lib.hid ?_, Lib.hid ?_, Lib.hid hf.1, hf.2.1⟩, by simp [intOf]; omega⟩
          · rw [hf.2.2, HV.out, HT'.out, show z + (p : Int) - z = (p : Int) by omega, hP2.out, Nat.mul_add x, Nat.mul_add (1000000 ^ k), ← Nat.mul_assoc x, Nat.mul_comm x (1000000 ^ j), Nat.mul_assoc (1000000 ^ j), ← Nat.mul_assoc (1000000 ^ k) (1000000 ^ j), ← Nat.pow_add]
            simp only [Int.natCast_add, Int.natCast_mul]
            omega
          · intro u hu
            rcases mem_set' hu with h | h
            · have := HZ.out u h
              omega
            · rw [h]
              exact ⟨hP0.1, HP.out⟩
        · obtain rfl : j = b.length := by omega
          rw [List.take_length] at HV
          go_wp2
          refine ⟨⟨k + 1, L, by omega, by go_num, HL, Lib.hid ?_, Lib.hid ?_, HO, hb⟩, by simp [intOf]; omega⟩
          · rw [HV.out, HT.out, Nat.add_mul, Nat.mul_assoc]
          · intro z hz
            have := HZ.out z hz
            rw [Nat.add_mul, Nat.one_mul]
            exact this
    · obtain rfl : k = a.length := by omega
      rw [List.take_length] at HV
      have SE := Lib.hid (settled_any w.heap.size w.heap.size N (Na.lv a * Na.lv b) L wr (by exact HO.out) (by rw [HL.out]; omega) (fun z hz => by
        have := HZ.out z hz
        have h1 : a.length * b.length ≤ 100 * 100 := Nat.mul_le_mul hl hl'
        omega) HV.out (by rw [HL.out]; exact HB.out))
      rw [HL.out] at SE
      have hNm : N ≤ maxLen := HO.out.facts.2.2.2
      have HLL := Lib.hid (Na.lim_length.2 HB.out)
      clear HS HS' HO HZ HV
      go_wp2_with fail
      refine SE.out.mono ?_
      rintro e w3 ⟨rfl, hi, hb3⟩
      have HI := Lib.hid hi
      clear hi
      go_wp2_with fail
      go_ret
      exact ⟨_, _, rfl, HI.out, HLL.out, hNm, Below.trans hb hb3⟩
end Go.Proofs.YtmnnaaifebajnaaGreatDoor
