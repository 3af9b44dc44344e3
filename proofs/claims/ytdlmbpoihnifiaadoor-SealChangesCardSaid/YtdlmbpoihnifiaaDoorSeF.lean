/- The reference's Made: the texts that are digested for a public key (layer 3). -/
import Derived.Test.YtdlmbpoihnifiaaDoorSeE
import Derived.Test.YtdlmbpoihnifiaaDoorTrN
import Derived.Deep.RegionHeld3
import Derived.Deep.DrawnRows
namespace Go.Proofs.YtdlmbpoihnifiaaDoor
open Go.RowKit
set_option maxRecDepth 100000
set_option linter.unusedSimpArgs false
set_option linter.unusedVariables false

def leafW : ByteArray := ⟨#[108, 101, 97, 102]⟩
def nodeW : ByteArray := ⟨#[110, 111, 100, 101]⟩
def part1 (s : ByteArray) (i n k : Nat) : List ByteArray := (List.range k).flatMap fun k => Se.startT s i k :: Se.chained (Se.start s i k) n
def part2 (s : ByteArray) (n i : Nat) : List ByteArray := (List.range i).flatMap fun i => Se.madeKey s i n
def endsTo (s : ByteArray) (i k : Nat) : List ByteArray := (List.range k).map fun k => Se.ch (Se.start s i k) 15
def leaves (s : ByteArray) (i : Nat) : List ByteArray := (List.range i).map fun i => Tr.leaf (Se.key s i)
theorem part1_succ (s : ByteArray) (i n k : Nat) : part1 s i n (k + 1) = part1 s i n k ++ [Se.startT s i k] ++ Se.chained (Se.start s i k) n := by
  unfold part1
  rw [List.range_succ, List.flatMap_append]
  simp
theorem part2_succ (s : ByteArray) (n i : Nat) : part2 s n (i + 1) = part2 s n i ++ part1 s i n 18 ++ [Tr.jn (Se.fins s i), Tr.jn [leafW, Se.key s i]] := by
  unfold part2 part1
  rw [List.range_succ, List.flatMap_append]
  simp [Se.madeKey, leafW]
theorem endsTo_succ (s : ByteArray) (i k : Nat) : endsTo s i (k + 1) = endsTo s i k ++ [Se.ch (Se.start s i k) 15] := map_range_snoc _ k
theorem leaves_succ (s : ByteArray) (i : Nat) : leaves s (i + 1) = leaves s i ++ [Tr.leaf (Se.key s i)] := map_range_snoc _ i
theorem part1_length (s : ByteArray) (i n : Nat) : ∀ k, (part1 s i n k).length = k * (n + 2)
  | 0 => by simp [part1]
  | k + 1 => by rw [part1_succ, List.length_append, List.length_append, part1_length s i n k, Nat.add_mul]; simp [Se.chained]; omega
theorem part2_length (s : ByteArray) (n : Nat) : ∀ i, (part2 s n i).length = i * (18 * (n + 2) + 2)
  | 0 => by simp [part2]
  | i + 1 => by rw [part2_succ, List.length_append, List.length_append, part2_length s n i, part1_length, Nat.add_mul]; simp; omega
theorem startT_le (s : ByteArray) (i k : Nat) (hs : s.size ≤ 1000000000) (hi : i ≤ 1000000) (hk : k ≤ 1000000) : (Se.startT s i k).size ≤ 140737488355328 :=
  jn_le (sz3 hs (dec_size i (by omega)) (dec_size k (by omega))) (by simp)

theorem made_bound (s : ByteArray) (n k j : Nat) (hk : k ≤ 256) (hj : j ≤ 18) (hn : n ≤ 100) : (part2 s n k ++ part1 s k n j).length ≤ 480000 := by
  rw [List.length_append, part2_length, part1_length]
  have h1 : k * (18 * (n + 2) + 2) ≤ 256 * (18 * (100 + 2) + 2) := Nat.mul_le_mul hk (by omega)
  have h2 : j * (n + 2) ≤ 18 * (100 + 2) := Nat.mul_le_mul hj (by omega)
  omega

theorem pairT_length : ∀ (n : Nat) (a : List ByteArray), a.length = 2 * n → (Se.pairT a).length = n
  | 0, a, h => by
    obtain rfl : a = [] := List.eq_nil_of_length_eq_zero (by omega)
    rfl
  | n + 1, a, h => by
    match a, h with
    | x :: y :: r, h => simp only [Se.pairT, List.length_cons]; rw [pairT_length n r (by simp at h; omega)]
theorem lv_length : ∀ (r : Nat) (l : List ByteArray), l.length = 2 ^ r → (Se.lv r l).length + 1 = 2 ^ r
  | 0, _, _ => rfl
  | r + 1, l, hl => by
    have h2 : l.length = 2 * 2 ^ r := by rw [hl, Se.pow_two]
    have e := Se.pairD_length (2 ^ r) l h2
    have ih := lv_length r (Se.pairD l) e
    show (Se.pairT l ++ Se.lv r (Se.pairD l)).length + 1 = _
    rw [List.length_append, pairT_length (2 ^ r) l h2, Se.pow_two]
    omega
theorem pairD_small : ∀ (l : List ByteArray), ∀ y ∈ Se.pairD l, y.size ≤ 1000000000
  | [], y, h => by simp [Se.pairD] at h
  | [_], y, h => by simp [Se.pairD] at h
  | a :: b :: r, y, h => by
    rcases List.mem_cons.1 h with rfl | h
    · rw [Tr.node, Tr.dg_size]; omega
    · exact pairD_small r y h
theorem take_two (l : List ByteArray) (q : Nat) (h : 2 * q + 1 < l.length) : l.take (2 * q + 2) = l.take (2 * q) ++ [l.getD (2 * q) ByteArray.empty, l.getD (2 * q + 1) ByteArray.empty] := by
  rw [take_snoc l ByteArray.empty (2 * q + 1) h, take_snoc l ByteArray.empty (2 * q) (by omega), List.append_assoc]
  rfl
theorem pairT_two (l : List ByteArray) (q : Nat) (h : 2 * q + 1 < l.length) : Se.pairT (l.take (2 * q + 2)) = Se.pairT (l.take (2 * q)) ++ [Tr.jn [nodeW, l.getD (2 * q) ByteArray.empty, l.getD (2 * q + 1) ByteArray.empty]] := by
  rw [take_two l q h, Se.pairT_append q _ _ (by rw [List.length_take]; omega)]
  rfl
theorem pairD_two (l : List ByteArray) (q : Nat) (h : 2 * q + 1 < l.length) : Se.pairD (l.take (2 * q + 2)) = Se.pairD (l.take (2 * q)) ++ [Tr.node (l.getD (2 * q) ByteArray.empty) (l.getD (2 * q + 1) ByteArray.empty)] := by
  rw [take_two l q h, Se.pairD_append q _ _ (by rw [List.length_take]; omega)]
  rfl

/-- How long a slice is. -/
def lenOf (v : Value) : Nat := match v with
  | .slice _ n _ => n
  | _ => 0

set_option maxHeartbeats 4000000 in
theorem made_any (s : ByteArray) (h n : Nat) (w : World) (hs : s.size ≤ 1000000000) (hh : h ≤ 8) (hn : 15 ≤ n) (hn' : n ≤ 100) :
    Calls Tryd.prog 23 #[.string s, .int .i64 (h : Int), .int .i64 (n : Int)] w (Gives (Se.made s h n) w) := by
  have h9 : 2 ^ h ≤ 256 := Nat.pow_le_pow_right (n := 2) (by omega) hh
  have PW := Lib.hid (fun w' => power_any h w' (by omega))
  have HM : Hid (Se.made s h n = part2 s n (2 ^ h) ++ Se.lv h (leaves s (2 ^ h))) := Lib.hid (by
    unfold Se.made part2 leaves Se.keys
    rw [List.map_map]
    rfl)
  have HL : Hid ((leaves s (2 ^ h)).length = 2 ^ h) := Lib.hid (by simp [leaves])
  have HP2 := Lib.hid (part2_length s n (2 ^ h))
  unfold Gives
  rw [HM.out]
  clear HM
  have h2h : Hid (2 ^ h = 2 ^ h) := rfl
  generalize hp : 2 ^ h = p at *
  have HPp := Lib.hid hp
  clear hp h2h
  generalize hT : part2 s n p ++ Se.lv h (leaves s p) = T at *
  have HT := Lib.hid hT
  clear hT
  go_enter Tryd.func23, Tryd.ntmps23
  go_wp2
  go_loopw [7, 8, 9, 10, 11, 12, 13, 14, 15] (fun o l i _ _ _ _ _ _ wr => ∃ k : Nat, k ≤ p ∧ i = .int .i64 (k : Int) ∧ Below w.heap.size w wr ∧ Own3 wr w.heap.size o (part2 s n k) (.slice none 0 0) [] l (leaves s k)) (fun _ _ i _ _ _ _ _ _ _ => p - (intOf i).toNat)
  case atStart => exact ⟨0, by omega, rfl, Below.refl _ _, Own3.nil _ _⟩
  case round =>
    obtain ⟨k, hk, rfl, hb, hown⟩ := hrel
    by_cases hlt : k < p
    · have HB := Lib.hid hb
      have HO := Lib.hid hown
      have HP := Lib.hid (part2_length s n k)
      clear hb hown
      go_wp2_with (go_at_call 33; refine (PW.out _).mono ?_; rintro e w1 ⟨rfl, rfl⟩)
      generalize wr = w0 at *
      have O0 := HO.out
      rw [← List.append_nil (part2 s n k)] at O0
      have O1 := Lib.hid O0
      clear O0
      go_loopw [7, 10, 11, 12, 13] (fun o e j _ _ wr => ∃ q : Nat, q ≤ 18 ∧ j = .int .i64 (q : Int) ∧ Below w.heap.size w wr ∧ Own3 wr w.heap.size o (part2 s n k ++ part1 s k n q) e (endsTo s k q) u8 (leaves s k)) (fun _ _ j _ _ _ => 18 - (intOf j).toNat)
      case atStart => exact ⟨0, by omega, rfl, HB.out, O1.out⟩
      case round =>
        obtain ⟨q, hq, rfl, hb, hown⟩ := hrel
        have hbd := made_bound s n k q (by omega) hq hn'
        by_cases hlt2 : q < 18
        · have D1 := Lib.hid (fun w' => decimal_any k w' (by omega))
          have D2 := Lib.hid (fun w' => decimal_any q w' (by omega))
          have HJ := Lib.hid (fun w' => rjoined_lit w' [s, Se.dec k, Se.dec q] (sz3 hs (dec_size k (by omega)) (dec_size q (by omega))) (by simp))
          have SU := Lib.hid (fun w' => rsum_ch (Se.startT s k q) w' (startT_le s k q hs (by omega) (by omega)))
          have CH := Lib.hid (fun w' => chained_any (Se.start s k q) n w' (by rw [Se.start, Tr.dg_size]; omega) (by omega))
          have hjn : Tr.jn [s, Se.dec k, Se.dec q] = Se.startT s k q := rfl
          have hsm : Tr.sm (Se.startT s k q) = Se.start s k q := rfl
          rw [hsm] at SU
          rw [hjn] at HJ
          have MS : Hid (part2 s n k ++ part1 s k n (q + 1) = part2 s n k ++ part1 s k n q ++ [Se.startT s k q] ++ Se.chained (Se.start s k q) n) := Lib.hid (by rw [part1_succ, ← List.append_assoc, ← List.append_assoc])
          have ME := Lib.hid (endsTo_succ s k q)
          have hcl : Hid ((Se.chained (Se.start s k q) n).length = n + 1) := Lib.hid (by simp [Se.chained])
          have h15 : Hid ((Se.chained (Se.start s k q) n).getD 15 ByteArray.empty = Se.ch (Se.start s k q) 15) := Lib.hid (by
            unfold Se.chained
            rw [List.getD_eq_getElem?_getD, List.getElem?_map, List.getElem?_range (by omega)]
            rfl)
          have hel : Hid ((endsTo s k q).length ≤ 18) := Lib.hid (by simp [endsTo]; omega)
          have HB2 := Lib.hid hb
          have HO2 := Lib.hid hown
          have HBD := Lib.hid hbd
          clear hb hown hbd hjn hsm
          generalize Se.ch (Se.start s k q) 15 = e15 at *
          generalize Se.chained (Se.start s k q) n = cl at *
          generalize Se.start s k q = st at *
          generalize Se.startT s k q = sT at *
          generalize part2 s n k ++ part1 s k n q = ol at *
          generalize endsTo s k q = el at *
          go_wp2_with fail
          refine (D1.out _).mono ?_
          rintro e w1 ⟨rfl, rfl⟩
          go_wp2_with fail
          refine (D2.out _).mono ?_
          rintro e w1 ⟨rfl, rfl⟩
          go_wp2_with fail
          refine (HJ.out _).mono ?_
          rintro e w1 ⟨rfl, hb1⟩
          have o1 := HO2.out.below hb1
          have o2 := o1.below ((Below.refl _ _).alloc (Nat.le_refl _) (.cells #[.string sT] 9))
          have b1 := HB2.out.trans (hb1.mono HB2.out.size)
          have b2 := b1.alloc b1.size (.cells #[.string sT] 9)
          go_wp2_with (first
            | (at_builtin
               refine list_append4 rfl (.tmp 35) (.tmp 37) rfl w.heap.size _ ol rfl o2.oa _ w.heap.size [sT] rfl (own_one w1 w.heap.size sT b1.size) (by have := HBD.out; simp; omega) b2.size ?_
               intro v2 w2 p2)
            | fail)
          have O2 := o2.appA p2
          have b3 := b2.trans p2.below
          refine (SU.out _).mono ?_
          rintro e w' ⟨rfl, rfl⟩
          go_wp2_with fail
          refine (CH.out w2).mono ?_
          rintro e w3 ⟨vl, rfl, hol, hb3⟩
          have O3 := O2.below hb3
          have b4 := b3.trans (hb3.mono b3.size)
          have djl : Dj vl v2 := dj_fresh hol O2.oa.ltB
          obtain ⟨g3, c3, hvl, hc15⟩ := hol.at 15 (by rw [hcl.out]; omega)
          rw [hcl.out] at hvl
          subst hvl
          rw [h15.out] at hc15
          have HOL := Lib.hid hol
          have HBD2 : Hid (ol.length + 1 + (n + 1) ≤ 1000000) := Lib.hid (by have := HBD.out; omega)
          have hn15 : (15 : Int) < (n : Int) + 1 := by omega
          clear hol
          go_wp2_with (first
            | (at_builtin
               refine list_append4 rfl (.tmp 43) (.tmp 44) rfl w.heap.size _ (ol ++ [sT]) rfl O3.oa _ w2.heap.size cl rfl HOL.out (by have := HBD2.out; rw [hcl.out]; simp; omega) b4.size ?_
               intro v4 w4 p4
               have hd15 := cell_grown2 hc15 p4.grown (fun e => djl g3 rfl e.symm)
               have O4 := O3.appA p4
               have b5 := b4.trans p4.below
               have o5 := O4.below ((Below.refl _ _).alloc (Nat.le_refl _) (.cells #[.string e15] 9))
               have b6 := b5.alloc b5.size (.cells #[.string e15] 9))
            | (at_builtin
               refine list_append4 rfl (.tmp 46) (.tmp 50) rfl w.heap.size _ el rfl o5.ob _ w.heap.size [e15] rfl (own_one w4 w.heap.size e15 b5.size) (by have := hel.out; simp; omega) b6.size ?_
               intro v5 w5 p5)
            | fail)
          have O5 := o5.appB p5
          exact ⟨⟨q + 1, by omega, by go_num, b6.trans p5.below, by rw [MS.out, ME.out]; exact O5⟩, by simp [intOf]; omega⟩
        · obtain rfl : q = 18 := by omega
          have hfe : endsTo s k 18 = Se.fins s k := rfl
          rw [hfe] at hown
          obtain ⟨A1, c1, rfl, hs1, hc1, hm1⟩ := hown.ob.form
          have hz : ∀ x ∈ Se.fins s k, x.size ≤ 1000 := by
            intro x hx
            obtain ⟨j, _, rfl⟩ := List.mem_map.1 hx
            rw [Se.ch_size]
            omega
          have hfl : (Se.fins s k).length = 18 := by simp [Se.fins]
          have hr := fins_room _ hz (by rw [hfl]; omega)
          have LR := Lib.hid (joined_ref_any A1 c1 _ wr hs1 (by rw [hfl]; simp [maxLen]) hr.1 hr.2)
          have hjle : (Tr.jn (Se.fins s k)).size ≤ 140737488355328 := by rw [Tr.jn, Tr.size_mk]; exact hr.1
          have SU := Lib.hid (fun w' => rsum_ch (Tr.jn (Se.fins s k)) w' hjle)
          have hsm : Tr.sm (Tr.jn (Se.fins s k)) = Se.key s k := rfl
          rw [hsm] at SU
          have HJ := Lib.hid (fun w' => rjoined_lit w' [leafW, Se.key s k] (sz2 (szl [_, _, _, _] (by decide)) (by rw [key_size]; omega)) (by simp))
          have SU2 := Lib.hid (fun w' => rsum_ch (Tr.jn [leafW, Se.key s k]) w' (jn_le (sz2 (szl [_, _, _, _] (by decide)) (by rw [key_size]; omega)) (by simp)))
          have hsm2 : Tr.sm (Tr.jn [leafW, Se.key s k]) = Tr.leaf (Se.key s k) := rfl
          rw [hsm2] at SU2
          have MS := Lib.hid (part2_succ s n k)
          have ML := Lib.hid (leaves_succ s k)
          have hll : Hid ((leaves s k).length ≤ 256) := Lib.hid (by simp [leaves]; omega)
          have HB2 := Lib.hid hb
          have HO2 := Lib.hid hown
          have HBD := Lib.hid hbd
          clear hb hown hbd hsm hsm2 hs1 hz hr hjle hfe
          rw [hfl] at LR hc1 HO2 ⊢
          clear hfl
          change Hid (Calls Tryd.prog 46 #[.slice A1 18 c1] wr fun e w' => e = .returned (.string (Tr.jn (Se.fins s k))) ∧ Below wr.heap.size wr w') at LR
          generalize Tr.jn [leafW, Se.key s k] = lf at *
          generalize Tr.leaf (Se.key s k) = lfd at *
          generalize Se.key s k = ky at *
          generalize Tr.jn (Se.fins s k) = kt at *
          generalize part2 s n k ++ part1 s k n 18 = ol at *
          generalize leaves s k = ll at *
          generalize Se.fins s k = fl at *
          go_wp2_with fail
          refine LR.out.mono ?_
          rintro e w1 ⟨rfl, hb1⟩
          have o1 := HO2.out.below hb1
          have b1 := HB2.out.trans (hb1.mono HB2.out.size)
          go_wp2_with fail
          refine (SU.out _).mono ?_
          rintro e w' ⟨rfl, rfl⟩
          go_wp2_with fail
          refine (HJ.out _).mono ?_
          rintro e w2 ⟨rfl, hb2⟩
          have o2 := o1.below hb2
          have b2 := b1.trans (hb2.mono b1.size)
          have o3 := o2.below ((Below.refl _ _).alloc (Nat.le_refl _) (.cells #[.string kt, .string lf] 9))
          have b3 := b2.alloc b2.size (.cells #[.string kt, .string lf] 9)
          go_wp2_with (first
            | (at_builtin
               refine list_append4 rfl (.tmp 58) (.tmp 61) rfl w.heap.size _ ol rfl o3.oa _ w.heap.size [kt, lf] rfl (own_lit w2 w.heap.size [kt, lf] b2.size (by simp)) (by have := HBD.out; simp; omega) b3.size ?_
               intro v4 w4 p4)
            | fail)
          have O4 := o3.appA p4
          have b4 := b3.trans p4.below
          refine (SU2.out _).mono ?_
          rintro e w' ⟨rfl, rfl⟩
          have o5 := O4.below ((Below.refl _ _).alloc (Nat.le_refl _) (.cells #[.string lfd] 9))
          have b5 := b4.alloc b4.size (.cells #[.string lfd] 9)
          go_wp2_with (first
            | (at_builtin
               refine list_append4 rfl (.tmp 63) (.tmp 66) rfl w.heap.size _ ll rfl o5.oc _ w.heap.size [lfd] rfl (own_one w4 w.heap.size lfd b4.size) (by have := hll.out; simp; omega) b5.size ?_
               intro v6 w6 p6)
            | fail)
          have O6 := (o5.appC p6).newB
          exact ⟨⟨k + 1, by omega, by go_num, b5.trans p6.below, by rw [MS.out, ML.out]; exact O6⟩, by simp [intOf]; omega⟩
    · obtain rfl : k = p := by omega
      have HB := Lib.hid hb
      have HO := Lib.hid hown
      have HZ : Hid (∀ x ∈ leaves s k, x.size ≤ 1000000000) := Lib.hid (by
        intro x hx
        obtain ⟨j, _, rfl⟩ := List.mem_map.1 hx
        rw [Tr.leaf, Tr.dg_size]
        omega)
      have htot : Hid ((part2 s n k ++ Se.lv h (leaves s k)).length ≤ 500000) := Lib.hid (by
        have h1 := made_bound s n k 0 (by omega) (by omega) hn'
        have h2 := lv_length h (leaves s k) (by rw [HL.out, HPp.out])
        rw [HPp.out] at h2
        rw [List.length_append] at h1 ⊢
        omega)
      clear hb hown
      rw [HT.out] at htot
      go_wp2_with (go_at_call 33; refine (PW.out _).mono ?_; rintro e w1 ⟨rfl, rfl⟩)
      go_loopw [7, 8, 16, 17] (fun o l _ _ wr => ∃ (r : Nat) (ol ll : List ByteArray), r ≤ 8 ∧ Hid (ll.length = 2 ^ r) ∧ Hid (ol ++ Se.lv r ll = T) ∧ Hid (∀ x ∈ ll, x.size ≤ 1000000000) ∧ Below w.heap.size w wr ∧ Own3 wr w.heap.size o ol (.slice none 0 0) [] l ll) (fun _ l _ _ _ => lenOf l)
      case atStart => exact ⟨h, _, _, hh, Lib.hid (by rw [HL.out, HPp.out]), HT, HZ, HB.out, HO.out⟩
      case round =>
        obtain ⟨r, ol, ll, hr, HN, HE, HZ2, hb, hown⟩ := hrel
        obtain ⟨A1, c1, rfl, hst, hc1, hm1⟩ := hown.oc.form
        have hob : ol.length ≤ 500000 := by
          have h1 := congrArg List.length HE.out
          rw [List.length_append] at h1
          have := htot.out
          omega
        cases r with
        | zero =>
          have h1 : ll.length = 1 := HN.out
          have HB2 := Lib.hid hb
          have HO2 := Lib.hid hown
          obtain ⟨A0, c0, rfl, _, _, _⟩ := hown.oa.form
          clear hb hown hst
          rw [h1] at hc1 HO2 ⊢
          clear h1
          generalize ol.length = on at *
          go_wp2_with fail
          go_ret
          exact ⟨_, rfl, by rw [← HE.out]; simpa [Se.lv] using HO2.out.oa, HB2.out⟩
        | succ r =>
          have hN2 : ll.length = 2 * 2 ^ r := by rw [HN.out, Se.pow_two]
          have hp1 : 0 < 2 ^ r := Nat.pow_pos (by omega)
          have hp2 : 2 ^ r ≤ 256 := (show 2 ^ r ≤ 2 ^ 8 from Nat.pow_le_pow_right (by omega) (by omega))
          have HD : Hid (Se.pairD ll = Se.pairD ll ∧ (Se.pairD ll).length = 2 ^ r) := Lib.hid ⟨rfl, Se.pairD_length _ _ hN2⟩
          have HB2 := Lib.hid hb
          have HO2 := Lib.hid hown
          clear hb hown hst
          have hm2 : ∃ m, m = 2 ^ r := ⟨_, rfl⟩
          obtain ⟨m, hm⟩ := hm2
          have HM := Lib.hid hm
          rw [← hm] at hN2 hp1 hp2
          have HN2 := Lib.hid hN2
          obtain ⟨N, hN⟩ : ∃ N, N = ll.length := ⟨_, rfl⟩
          have hNm : N = 2 * m := by rw [hN, hN2]
          rw [← hN] at hc1 HO2 ⊢
          have HNl := Lib.hid hN
          have hm1' : c1 ≤ 9223372036854775807 := hm1
          clear hN hN2 hm hm1 HN
          have OA : Hid (Own3 wr w.heap.size u7 (ol ++ Se.pairT (ll.take (2 * 0))) (.slice none 0 0) (Se.pairD (ll.take (2 * 0))) (.slice A1 N c1) ll) := Lib.hid (by
            have := HO2.out
            rw [Nat.mul_zero, List.take_zero]
            simpa [Se.pairT, Se.pairD] using this)
          have HNM := Lib.hid hNm
          have hN1 : (1 : Int) < (N : Int) := by omega
          clear hNm
          go_wp2_with fail
          generalize wr = w0 at *
          go_loopw [7, 16, 17] (fun o e i wr => ∃ q x : Nat, q ≤ m ∧ Hid (x = 2 * q) ∧ i = .int .i64 (x : Int) ∧ Below w.heap.size w wr ∧ Own3 wr w.heap.size o (ol ++ Se.pairT (ll.take (2 * q))) e (Se.pairD (ll.take (2 * q))) (.slice A1 N c1) ll) (fun _ _ i _ => N - (intOf i).toNat)
          case atStart => exact ⟨0, 0, by omega, Lib.hid rfl, rfl, HB2.out, OA.out⟩
          case round =>
            obtain ⟨q, x, hq, HX, rfl, hb, hown⟩ := hrel
            have hx : x = 2 * q := HX.out
            have hNm : N = 2 * m := HNM.out
            by_cases hlt2 : q < m
            · have hxN : x + 1 < N := by omega
              have hxl : 2 * q + 1 < ll.length := by rw [← HNl.out]; omega
              obtain ⟨g, c3, hgv, ca⟩ := hown.oc.at x (by rw [← HNl.out]; omega)
              obtain ⟨g', c3', hgv', cb⟩ := hown.oc.at (x + 1) (by rw [← HNl.out]; omega)
              obtain ⟨rfl, hdrop, rfl⟩ := Value.slice.inj hgv
              clear hdrop
              have hgg := (Value.slice.inj hgv').1
              simp at hgg
              subst hgg
              have PT := Lib.hid (pairT_two ll q hxl)
              have PD := Lib.hid (pairD_two ll q hxl)
              have hpt : Hid ((Se.pairT (ll.take (2 * q))).length ≤ 256 ∧ (Se.pairD (ll.take (2 * q))).length ≤ 256) := Lib.hid (by
                have h1 : (ll.take (2 * q)).length = 2 * q := by rw [List.length_take]; omega
                rw [pairT_length q _ h1, Se.pairD_length q _ h1]
                omega)
              have s1 : (ll.getD (2 * q) ByteArray.empty).size ≤ 1000000000 := by
                refine HZ2.out _ ?_
                rw [List.getD_eq_getElem?_getD, List.getElem?_eq_getElem (by omega)]
                exact List.getElem_mem _
              have s2 : (ll.getD (2 * q + 1) ByteArray.empty).size ≤ 1000000000 := by
                refine HZ2.out _ ?_
                rw [List.getD_eq_getElem?_getD, List.getElem?_eq_getElem hxl]
                exact List.getElem_mem _
              rw [hx] at ca cb
              generalize ll.getD (2 * q) ByteArray.empty = ta at *
              generalize ll.getD (2 * q + 1) ByteArray.empty = tb at *
              have NH := Lib.hid (fun w' => rnode3_any ta tb w' s1 s2)
              have SU := Lib.hid (fun w' => rsum_ch (Tr.jn [nodeW, ta, tb]) w' (jn_le (sz3 (szl [_, _, _, _] (by decide)) s1 s2) (by simp)))
              have hsm : Tr.sm (Tr.jn [nodeW, ta, tb]) = Tr.node ta tb := rfl
              rw [hsm] at SU
              change Hid (∀ w', Calls Tryd.prog 49 #[.string ta, .string tb] w' fun e w'_1 => e = .returned (.string (Tr.jn [nodeW, ta, tb])) ∧ Below w'.heap.size w' w'_1) at NH
              generalize Tr.jn [nodeW, ta, tb] = nt at *
              generalize Tr.node ta tb = nd at *
              rw [← hx] at ca cb
              have HB3 := Lib.hid hb
              have HO3 := Lib.hid hown
              have HCA := Lib.hid ca
              have HCB := Lib.hid cb
              have hx1 : IntKind.i64.wrap ((x : Int) + 1) = (x : Int) + 1 := by rw [IntKind.wrap_i64]; omega
              have hx2 : (x : Int) + 1 < (N : Int) := by omega
              have hx3 : (x : Int) < (N : Int) := by omega
              have hz0 : (0 : Int) ≤ (x : Int) := by omega
              have hz1 : (0 : Int) ≤ (x : Int) + 1 := by omega
              have hz2 : x < N := by omega
              generalize Se.pairT (ll.take (2 * q)) = pt at *
              generalize Se.pairD (ll.take (2 * q)) = pd at *
              clear hb hown hgv hgv' hsm hx s1 s2 hxl hNm
              go_wp2_with fail
              go_region_held3 (fun w' => w'.cell? ⟨g, x, none⟩ = some (.string ta) ∧ w'.cell? ⟨g, x + 1, none⟩ = some (.string tb)) (first | exact ⟨ca, cb⟩ | exact ⟨n0, n1⟩ | exact ⟨m0, m1⟩ | exact ⟨k0, k1⟩)
                (first
                  | (go_at_call 49
                     (with_reducible refine (NH.out _).mono ?_)
                     rintro e w1 ⟨rfl, hb1⟩
                     have hb1' := Bt (Bd wr) hb1
                     have k0 := cell_bt ca hb1'
                     have k1 := cell_bt cb hb1'
                     have m0 := cell_bt k0 ((Below.refl _ _).alloc (Nat.le_refl _) (.cells #[.string nt] 9))
                     have m1 := cell_bt k1 ((Below.refl _ _).alloc (Nat.le_refl _) (.cells #[.string nt] 9))
                     have o1 := (HO3.out.below hb1').below ((Below.refl _ _).alloc (Nat.le_refl _) (.cells #[.string nt] 9))
                     have b0 := HB3.out.trans (hb1'.mono HB3.out.size)
                     have b1 := b0.alloc b0.size (.cells #[.string nt] 9))
                  | (refine step_append4 (by rfl) (.tmp 78) (.tmp 89) (by rfl) w.heap.size _ (ol ++ pt) (by rfl) o1.oa _ w.heap.size [nt] (by rfl) (own_one w1 w.heap.size nt b0.size) (by have := hpt.out.1; simp; omega) b1.size ?_
                     intro v2 w2 p2
                     have O2 := o1.appA p2
                     have b2 := b1.trans p2.below
                     have n0 := cell_grown2 m0 p2.grown (fun e => o1.ac g e.symm rfl)
                     have n1 := cell_grown2 m1 p2.grown (fun e => o1.ac g e.symm rfl))
                  | fail)
              clear ca cb k0 k1 m0 m1 hb1 hb1'
              go_wp2_with fail
              go_region_held3 (fun w' => w'.cell? ⟨g, x, none⟩ = some (.string ta) ∧ w'.cell? ⟨g, x + 1, none⟩ = some (.string tb)) (first | exact ⟨n0, n1⟩ | exact ⟨q0, q1⟩ | exact ⟨m0, m1⟩ | exact ⟨k0, k1⟩)
                (first
                  | (go_at_call 49
                     (with_reducible refine (NH.out _).mono ?_)
                     rintro e w3 ⟨rfl, hb3⟩
                     have hb3' := Bt (Bd w2) hb3
                     have k0 := cell_bt n0 hb3'
                     have k1 := cell_bt n1 hb3'
                     have m0 := cell_bt k0 ((Below.refl _ _).alloc (Nat.le_refl _) (.cells #[.string nd] 9))
                     have m1 := cell_bt k1 ((Below.refl _ _).alloc (Nat.le_refl _) (.cells #[.string nd] 9))
                     have o3 := (O2.below hb3').below ((Below.refl _ _).alloc (Nat.le_refl _) (.cells #[.string nd] 9))
                     have b3 := b2.trans (hb3'.mono b2.size)
                     have b4 := b3.alloc b3.size (.cells #[.string nd] 9))
                  | (go_at_call 25
                     (with_reducible refine (SU.out _).mono ?_)
                     rintro e w4 ⟨rfl, rfl⟩)
                  | (refine step_append4 (by rfl) (.tmp 91) (.tmp 103) (by rfl) w.heap.size _ pd (by rfl) o3.ob _ w.heap.size [nd] (by rfl) (own_one w3 w.heap.size nd b3.size) (by have := hpt.out.2; simp; omega) b4.size ?_
                     intro v5 w5 p5
                     have O5 := o3.appB p5
                     have b5 := b4.trans p5.below
                     have q0 := cell_grown2 m0 p5.grown (fun e => o3.bc g e.symm rfl)
                     have q1 := cell_grown2 m1 p5.grown (fun e => o3.bc g e.symm rfl))
                  | fail)
              go_wp2_with fail
              exact ⟨⟨q + 1, x + 2, by omega, Lib.hid (by have := HX.out; omega), by go_num, b5, by rw [show 2 * (q + 1) = 2 * q + 2 by omega, PT.out, PD.out, ← List.append_assoc]; exact O5⟩, by simp [intOf]; omega⟩
            · obtain rfl : q = m := by omega
              have htk : ll.take (2 * q) = ll := List.take_of_length_le (by rw [← HNl.out]; omega)
              rw [htk] at hown
              obtain ⟨Ae, ce, hev, _, _, _⟩ := hown.ob.form
              have hlen : (Se.pairD ll).length = q := by rw [HD.out.2, HM.out]
              rw [hlen] at hev
              subst hev
              have hxN : N ≤ x + 1 := by omega
              have hxN2 : ¬ ((x : Int) + 1 < (N : Int)) := by omega
              have hx1 : IntKind.i64.wrap ((x : Int) + 1) = (x : Int) + 1 := by rw [IntKind.wrap_i64]; omega
              have HB3 := Lib.hid hb
              have HO3 := Lib.hid hown.swap'.newB
              have HZ3 : Hid (∀ y ∈ Se.pairD ll, y.size ≤ 1000000000) := Lib.hid (pairD_small ll)
              have HE3 : Hid (ol ++ Se.pairT ll ++ Se.lv r (Se.pairD ll) = T) := Lib.hid (by rw [List.append_assoc]; exact HE.out)
              have HL3 : Hid ((Se.pairD ll).length = 2 ^ r) := Lib.hid HD.out.2
              have hlt3 : q < N := by omega
              clear hown hb hx hNm htk hlen
              go_wp2_with fail
              exact ⟨⟨r, _, _, by omega, HL3, HE3, HZ3, HB3.out, HO3.out⟩, hlt3⟩
end Go.Proofs.YtdlmbpoihnifiaaDoor
