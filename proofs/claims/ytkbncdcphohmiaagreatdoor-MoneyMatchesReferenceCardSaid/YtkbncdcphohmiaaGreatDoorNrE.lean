/- The reference of layer 4: Over, Common. -/
import Derived.Test.YtkbncdcphohmiaaGreatDoorNrAB
import Derived.Deep.LoopGhost
set_option linter.unusedSimpArgs false
set_option linter.unusedVariables false
namespace Go.Proofs.YtkbncdcphohmiaaGreatDoor
open Go.RowKit
set_option maxRecDepth 100000

def OwnQ (w : World) (B : Nat) (v : Value) (l : List UInt8) : Prop := w.ownsRow B 5 1 v l.length (Lib.byteCells l)
theorem OwnQ.below {w w' : World} {B : Nat} {v : Value} {l : List UInt8} (h : OwnQ w B v l) (hb : Below w.heap.size w w') : OwnQ w' B v l := by
  unfold OwnQ at h ⊢
  refine World.ownsRow.kept h (row := none) ⟨hb.os, hb.tape, hb.output, hb.size, fun i hi _ => hb.block i hi⟩ ?_
  cases h : v.ownBlock with
  | none => exact .inl rfl
  | some g => exact .inr (by simp)
theorem OwnQ.string {w : World} {B : Nat} {v : Value} {l : List UInt8} (hown : OwnQ w B v l) (h0 : l ≠ []) : (convert 109 9 v).run Tryz.prog w = .ok (.string ⟨l.toArray⟩) w := by
  rcases hown.2 with ⟨rfl, h1⟩ | ⟨g, cap, cur, rfl, hb, hg, hn, hm, hcs, htk⟩
  · exact absurd (List.eq_nil_of_length_eq_zero h1) h0
  · refine run_convert_bytes_back (P := Tryz.prog) w 109 9 5 ⟨g, 0, none⟩ cap l Tryz.underlying109 Tryz.underlying5 Tryz.underlying9 (fun j hj => ?_)
    refine hown.cells (g := g) rfl j _ ?_
    simp [Lib.byteCells, List.getElem?_eq_getElem hj]

theorem list_append8 {ops : Array Oper} {rest : List Oper} {o : Oper} {a : Act} {w : World} {Q : Exit → Act → World → Prop} (hgd : o.guard = none) (s x : Operand) (t : TypeId) (ht : Tryz.prog.underlying t = some (.slice 5))
    (ho : o.op = .call { callee := .builtin .append, args := #[s, x], argTypes := #[t, t] }) (B : Nat) (v : Value) (l : List UInt8) (hs : a.eval s = v) (hown : OwnQ w B v l) (g0 c : Nat) (ch : UInt8)
    (hx : a.eval x = .slice (some ⟨g0, 0, none⟩) 1 c) (hcell : w.cell? ⟨g0, 0, none⟩ = some (.int .u8 (ch.toNat : Int))) (hl : l.length + 1 ≤ 1000000) (hB : B ≤ w.heap.size)
    (h : ∀ g cap w', OwnQ w' B (.slice (some ⟨g, 0, none⟩) (l.length + 1) cap) (l ++ [ch]) → Below B w w' → wpList Tryz.prog ops Q rest (a.put o.dst (.slice (some ⟨g, 0, none⟩) (l.length + 1) cap)) w') : wpList Tryz.prog ops Q (o :: rest) a w := by
  obtain ⟨i0, hi, hz0, hz1, hz2⟩ := info_parts info8
  refine wpList_append_lies w hgd s x t ho B 5 i0 (.int .u8 0) 1 1 ht hi hz0 hz1 hz2 rfl (by decide) v l.length _ hs hown ⟨g0, 0, none⟩ 1 c [.int .u8 (ch.toNat : Int)] hx rfl ?_ ?_ (by decide) (by unfold maxLen; omega) (by omega) hB w.heap.size rfl ?_
  · intro j u hj
    rcases Nat.eq_zero_or_pos j with rfl | hp
    · rw [show (⟨g0, 0, none⟩ : Addr).add 0 = ⟨g0, 0, none⟩ from rfl, hcell]
      exact hj
    · rw [List.getElem?_eq_none (by simp; omega)] at hj
      cases hj
  · intro u hu
    simp at hu
    subst hu
    rfl
  · intro g cap w' h1 h2 h3 h4
    refine h g cap w' ?_ ?_
    · unfold OwnQ
      have e : Lib.byteCells (l ++ [ch]) = Lib.byteCells l ++ [.int .u8 (ch.toNat : Int)] := by simp [Lib.byteCells]
      rw [e, List.length_append]
      exact h1
    · refine (Below.refl _ _).grown h2 hB (fun j hj => ?_)
      rcases hown.2 with ⟨rfl, _⟩ | ⟨g', cap', cur, rfl, h2', _⟩
      · cases hj
      · simp [Value.ownBlock] at hj
        subst hj
        exact h2'

theorem take_bytes (s : ByteArray) (k : Nat) : s.extract 0 k = ⟨(s.data.toList.take k).toArray⟩ := by
  apply ByteArray.ext
  apply Array.toList_inj.1
  rw [ByteArray.data_extract, Array.toList_extract]
  simp
theorem one_bytes (s : ByteArray) (k : Nat) (h : k < s.size) : s.extract k (k + 1) = ⟨#[s.data.toList.getD k 0]⟩ := by
  apply ByteArray.ext
  apply Array.toList_inj.1
  rw [ByteArray.data_extract, Array.toList_extract]
  have hl : k < s.data.toList.length := by simpa using h
  rw [List.extract_eq_take_drop, List.getD_eq_getElem?_getD, List.getElem?_eq_getElem hl, List.drop_eq_getElem_cons hl, show k + 1 - k = 1 by omega]
  rfl
theorem app_one (R : List UInt8) (c : UInt8) : (⟨R.toArray⟩ : ByteArray) ++ ⟨#[c]⟩ = ⟨(R ++ [c]).toArray⟩ := by
  apply ByteArray.ext
  simp [ByteArray.data_append]
theorem tx_bytes (m : Nat) : tx m = ⟨(Lib.decDigits m).toArray⟩ := rfl

theorem rover_less (m n : Nat) (w : World) (hm : (tx m).size ≤ 1000) (hn : (tx n).size ≤ 1000) (h : m < n) :
    Calls Tryz.prog 121 #[.string (tx m), .string (tx n)] w fun e w' => e = .returned (.tuple #[.string (tx (m / n)), .string (tx (m % n))]) ∧ Below w.heap.size w w' := by
  have OR := Lib.hid (fun w' => order_tx m n w' (by omega) (by omega))
  rw [show cmpN m n = -1 by unfold cmpN; rw [if_pos h]] at OR
  rw [Nat.div_eq_of_lt h, Nat.mod_eq_of_lt h, tx_zero]
  generalize tx m = s at *
  generalize tx n = t at *
  go_enter Tryz.func121, Tryz.ntmps121
  go_wp2_with fail
  refine (OR.out _).mono ?_
  rintro e w1 ⟨rfl, rfl⟩
  go_wp2_with fail
  go_ret2
  exact ⟨rfl, Below.refl _ _⟩

theorem cmp_ge (m n : Nat) (h : ¬ m < n) : (0 : Int) ≤ cmpN m n := by
  unfold cmpN
  rw [if_neg h]
  split <;> omega

theorem rover_short (m n : Nat) (w : World) (hm : (tx m).size ≤ 18) (hn : (tx n).size ≤ 18) (h : ¬ m < n) (h0 : 0 < n) :
    Calls Tryz.prog 121 #[.string (tx m), .string (tx n)] w fun e w' => e = .returned (.tuple #[.string (tx (m / n)), .string (tx (m % n))]) ∧ Below w.heap.size w w' := by
  have OR := Lib.hid (fun w' => order_tx m n w' (by omega) (by omega))
  have hc := cmp_ge m n h
  have hm2 : ((tx m).size : Int) ≤ 18 := by omega
  have lm : m < 10 ^ 18 := Nat.lt_of_lt_of_le (tx_lt m) (Nat.pow_le_pow_right (by omega) hm)
  have ln : n < 10 ^ 18 := Nat.lt_of_lt_of_le (tx_lt n) (Nat.pow_le_pow_right (by omega) hn)
  have V1 := Lib.hid (fun w' => value_tx m w' hm)
  have V2 := Lib.hid (fun w' => value_tx n w' hn)
  have ld : m / n ≤ m := Nat.div_le_self _ _
  have lr : m % n < n := Nat.mod_lt _ h0
  have D1 := Lib.hid (fun w' => rdecimal_any (m / n) w' (by omega))
  have D2 := Lib.hid (fun w' => rdecimal_any (m % n) w' (by omega))
  have e1 := Lib.hid (show (m : Int) / (n : Int) = ((m / n : Nat) : Int) by rw [Int.natCast_ediv])
  have e2 := Lib.hid (show (m : Int) % (n : Int) = ((m % n : Nat) : Int) by rw [Int.natCast_emod])
  have hn0 : (n : Int) ≠ 0 := by omega
  have hn0b : ((n : Int) == 0) = false := by simpa using hn0
  generalize tx (m / n) = Q at *
  generalize tx (m % n) = R at *
  generalize m / n = q at *
  generalize m % n = r at *
  generalize tx m = s at *
  generalize tx n = t at *
  generalize cmpN m n = c at *
  go_enter Tryz.func121, Tryz.ntmps121
  go_wp2_with fail
  refine (OR.out _).mono ?_
  rintro e w1 ⟨rfl, rfl⟩
  go_wp2_with fail
  refine (V1.out _).mono ?_
  rintro e w1 ⟨rfl, rfl⟩
  go_wp2_with fail
  refine (V2.out _).mono ?_
  rintro e w1 ⟨rfl, rfl⟩
  have e1' := e1.out
  go_wp2_with fail
  clear e1'
  refine (D1.out _).mono ?_
  rintro e w1 ⟨rfl, rfl⟩
  go_wp2_with fail
  refine (V1.out _).mono ?_
  rintro e w1 ⟨rfl, rfl⟩
  go_wp2_with fail
  refine (V2.out _).mono ?_
  rintro e w1 ⟨rfl, rfl⟩
  have e2' := e2.out
  go_wp2_with fail
  clear e2'
  refine (D2.out _).mono ?_
  rintro e w1 ⟨rfl, rfl⟩
  go_wp2_with fail
  go_ret2
  exact ⟨rfl, Below.refl _ _⟩

set_option maxHeartbeats 4000000 in
theorem rover_long (m n : Nat) (w : World) (hm : (tx m).size ≤ 900) (hn : (tx n).size ≤ 900) (hl : ¬ (tx m).size ≤ 18) (h : ¬ m < n) (h0 : 0 < n) :
    Calls Tryz.prog 121 #[.string (tx m), .string (tx n)] w fun e w' => e = .returned (.tuple #[.string (tx (m / n)), .string (tx (m % n))]) ∧ Below w.heap.size w w' := by
  have OR := Lib.hid (fun w' => order_tx m n w' (by omega) (by omega))
  have hc := cmp_ge m n h
  have hm2 : ¬ ((tx m).size : Int) ≤ 18 := by omega
  have hlen : (tx m).data.toList.length = (tx m).size := by simp
  have hsz : (tx n).size ≤ (tx m).size := by
    rcases Nat.lt_or_ge (tx m).size (tx n).size with k | k
    · exact absurd (Na.len_lt m n (by rw [← tx_size, ← tx_size]; exact k)) h
    · exact k
  have hp := tx_pos n
  obtain ⟨p, hpe⟩ : ∃ p, p = (tx n).size - 1 := ⟨_, rfl⟩
  have hpl : p < (tx m).size := by omega
  have hall := tx_all m
  have HTK := Lib.hid (fun k (hk : k < (tx m).size) => val_take1 (tx m).data.toList k (by rw [hlen]; exact hk))
  have HDG := Lib.hid (fun k (hk : k < (tx m).size) => dig_at (tx m) k hk hall)
  have HOB := Lib.hid (one_bytes (tx m))
  have HIS := Lib.hid (fun k (hk : k < (tx m).size) => show Na.isD ((tx m).data.toList.getD k 0) = true from by
    rw [List.getD_eq_getElem?_getD, List.getElem?_eq_getElem (by rw [hlen]; exact hk)]
    exact List.all_eq_true.1 hall _ (List.getElem_mem _))
  have HEND := Lib.hid (show Na.val ((tx m).data.toList.take (tx m).size) = m by rw [← hlen, List.take_length, tx_val])
  -- the first digits
  have hpre : Na.val ((tx m).data.toList.take p) < n := by
    have h1 := Na.val_lt ((tx m).data.toList.take p) (List.all_eq_true.2 fun c hc => List.all_eq_true.1 hall c (List.mem_of_mem_take hc))
    rw [List.length_take, hlen, Nat.min_eq_left (by omega)] at h1
    rcases Nat.eq_zero_or_pos p with rfl | hpos
    · show Na.val (List.take 0 _) < n
      rw [List.take_zero, Na.val_nil]
      exact h0
    · have h2 : ¬ n < 10 ^ p := fun k => by
        have := (Na.dec_len (by omega)).2 k
        rw [← tx_size] at this
        omega
      omega
  have H0 : Hid (((tx m).data.toList.take p).all Na.isD = true ∧ Na.val ((tx m).data.toList.take p) = Na.val ((tx m).data.toList.take p) % n ∧ 0 = Na.val ((tx m).data.toList.take p) / n ∧ ((tx m).data.toList.take p).length ≤ 1000) :=
    Lib.hid ⟨List.all_eq_true.2 fun c hc => List.all_eq_true.1 hall c (List.mem_of_mem_take hc), (Nat.mod_eq_of_lt hpre).symm, (Nat.div_eq_of_lt hpre).symm, by rw [List.length_take, hlen]; omega⟩
  have HTB := Lib.hid (take_bytes (tx m) p)
  have ORR := Lib.hid (fun y (hy : (tx y).size ≤ 10000) w' => order_tx y n w' hy (by omega))
  have TR := Lib.hid (fun l w' (k0 : l ≠ []) (k1 : l.length ≤ 10000) (k2 : l.all Na.isD = true) => trim_digits l w' k0 k1 k2)
  have SZ := Lib.hid (fun y (hy : y < 10 * n) => show (tx y).size ≤ 1000 from by
    have h1 : (tx y).size ≤ (tx n).size + 1 := by
      rw [tx_size, tx_size]
      refine (Na.dec_len (by omega)).2 ?_
      have := Na.lt_dec n
      rw [Nat.pow_succ]
      omega
    omega)
  have MI := Lib.hid (fun y (hy : (tx y).size ≤ 1000) (hny : n ≤ y) w' => rminus_tx y n w' hy (by omega) hny)
  have hpi : IntKind.i64.wrap (((tx n).size : Int) - 1) = (p : Int) := by rw [IntKind.wrap_i64]; omega
  obtain ⟨QQ, hQQ⟩ : ∃ QQ, QQ = tx (m / n) := ⟨_, rfl⟩
  obtain ⟨RR, hRR⟩ : ∃ RR, RR = tx (m % n) := ⟨_, rfl⟩
  rw [← hQQ, ← hRR]
  have HQQ := Lib.hid hQQ
  have HRR := Lib.hid hRR
  have HPE := Lib.hid hpe
  clear hQQ hRR hpre hall hlen hp h hpe
  generalize (tx m).data.toList = l at *
  generalize tx m = s at *
  generalize tx n = t at *
  generalize cmpN m n = cmn at *
  obtain ⟨i0, hi, hz0, hz1, hz2⟩ := info_parts info8
  go_enter Tryz.func121, Tryz.ntmps121
  go_wp2_with fail
  refine (OR.out _).mono ?_
  rintro e w1 ⟨rfl, rfl⟩
  go_wp2_with (first
    | (at_make
       refine wpList_make_own _ rfl _ _ 109 rfl w.heap.size 5 i0 (.int .u8 0) 1 Tryz.underlying109 hi hz0 hz1 .i64 .i64 _ s.size rfl rfl rfl (by rw [hz2]; omega) (by unfold maxLen; omega) (Nat.le_refl _) ?_
       intro w1 hown1 hg1
       have hb1 : Below w.heap.size w w1 := (Below.refl _ _).grown hg1 (Nat.le_refl _) (fun k h => by cases h)
       have HO1 : Hid (OwnQ w1 w.heap.size (.slice (some ⟨w.heap.size, 0, none⟩) 0 s.size) []) := Lib.hid hown1
       clear hg1 hown1)
    | fail)
  go_loopw [6, 7, 8] (fun q r i wr => ∃ (k : Nat) (q0 : Value) (Q R : List UInt8), q0 = q ∧ i = .int .i64 (k : Int) ∧ r = .string ⟨R.toArray⟩ ∧ p ≤ k ∧ k ≤ s.size ∧ Hid (OwnQ wr w.heap.size q0 Q) ∧ Hid (Q.all Na.isD = true ∧ Na.val Q = Na.val (l.take k) / n ∧ Q.length = k - p) ∧ Hid (R.all Na.isD = true ∧ Na.val R = Na.val (l.take k) % n ∧ R.length ≤ 1000) ∧ Hid (p < k → R = Lib.decDigits (Na.val R)) ∧ Below w.heap.size w wr) (fun _ _ i _ => s.size - (intOf i).toNat)
  case atStart =>
    exact ⟨p, _, [], l.take p, rfl, rfl, by rw [HTB.out], Nat.le_refl _, by omega, HO1, Lib.hid ⟨rfl, H0.out.2.2.1, by simp⟩, Lib.hid ⟨H0.out.1, H0.out.2.1, H0.out.2.2.2⟩, Lib.hid (fun h => absurd h (by omega)), hb1⟩
  case round =>
    clear HO1 hb1 OR hc
    obtain ⟨k, q0, Q, R, rfl, rfl, rfl, hpk, hk, HO, HQ, HR, HRD, hb⟩ := hrel
    by_cases hlt : k < s.size
    · obtain ⟨dd, hdd, hsd, hdv⟩ := HDG.out k hlt
      have hisd := HIS.out k hlt
      have hone := HOB.out k hlt
      have htk := HTK.out k hlt
      generalize l.getD k 0 = c at *
      obtain ⟨r1, r2, r3⟩ := HR.out
      obtain ⟨x, hx⟩ : ∃ x, x = Na.val R * 10 + dd := ⟨_, rfl⟩
      have st := Na.over_step (Na.val (l.take k)) n dd h0 hdd
      rw [← r2, ← hx, hdv, ← htk] at st
      have hval : Na.val (R ++ [c]) = x := by rw [Na.val_snoc, hx, hdv]
      have TX := Lib.hid (TR.out (R ++ [c]) wr (by simp) (by simp; omega) (by simp [r1, hisd]))
      rw [hval] at TX
      have hx10 : x < 10 * n := by
        have := (Nat.div_lt_iff_lt_mul h0).1 st.2.2
        omega
      have hcat : (⟨R.toArray⟩ : ByteArray) ++ (⟨#[c]⟩ : ByteArray) = ⟨(R ++ [c]).toArray⟩ := app_one R c
      have hRl : R.length ≤ 1000 := r3
      have HST := Lib.hid st
      generalize (⟨(R ++ [c]).toArray⟩ : ByteArray) = Y at *
      have hk1 : (k : Int) ≤ (k : Int) + 1 := by omega
      have hk2 : (k : Int) + 1 ≤ (s.size : Int) := by omega
      have hk3 : (0 : Int) ≤ (k : Int) := by omega
      clear st hval htk r1 r2 r3 hsd hdv hisd hx HR HRD
      go_wp2_with fail
      refine TX.out.mono ?_
      rintro e w1 ⟨rfl, rfl⟩
      go_wp2_with fail
      go_loopw [7, 9] (fun r d wr' => ∃ j y : Nat, j ≤ 9 ∧ r = .string (tx y) ∧ d = .int .u8 (48 + (j : Int)) ∧ y ≤ x ∧ Hid (j * n ≤ x ∧ y = x - j * n) ∧ Hid (OwnQ wr' w.heap.size q0 Q) ∧ Below w.heap.size w wr') (fun _ d _ => 100 - (intOf d).toNat)
      case atStart => exact ⟨0, x, by omega, rfl, by first | rfl | (congr 1), Nat.le_refl _, Lib.hid ⟨by simp, by simp⟩, HO, hb⟩
      case round =>
        clear HO hb TX hcat hone hRl
        obtain ⟨j, y, hj, rfl, rfl, hyx, HJ, HO, hb⟩ := hrel
        have hysz := SZ.out y (by omega)
        by_cases hyn : y < n
        · have OY := Lib.hid (ORR.out y (by omega) wr)
          rw [show cmpN y n = -1 by unfold cmpN; rw [if_pos hyn]] at OY
          obtain ⟨j1, j2⟩ := HJ.out
          obtain ⟨f1, f2⟩ := Na.div_found x n j h0 j1 (by rw [← j2]; exact hyn)
          rw [← j2] at f2
          obtain ⟨ch, hch⟩ : ∃ ch, ch = UInt8.ofNat (48 + j) := ⟨_, rfl⟩
          have hct : ((ch.toNat : Nat) : Int) = 48 + (j : Int) := by
            rw [hch, UInt8.toNat_ofNat']
            omega
          obtain ⟨g1, g2⟩ := Na.of_dig j (by omega)
          rw [← hch] at g1 g2
          have HFA := Lib.hid (show Na.isD ch = true ∧ Na.dv ch = j from ⟨g1, g2⟩)
          have HF := Lib.hid (And.intro f1 f2)
          have hbx : Below wr.heap.size wr (wr.alloc (.cells #[.int .u8 (48 + (j : Int))] 5)) := (Below.refl _ _).alloc (Nat.le_refl _) _
          have HO2 := Lib.hid (HO.out.below hbx)
          have hbw2 := Nb hb hbx
          have hcell : (wr.alloc (.cells #[.int .u8 (48 + (j : Int))] 5)).cell? ⟨wr.heap.size, 0, none⟩ = some (.int .u8 (ch.toNat : Int)) := by
            rw [hct]
            exact cell_of_one (heap_alloc_new wr _)
          have HCE := Lib.hid hcell
          have hql : Q.length + 1 ≤ 1000000 := by have := HQ.out.2.2; omega
          clear j1 j2 f1 f2 hch hct g1 g2 hbx HO HJ hcell
          go_wp2_with fail
          refine OY.out.mono ?_
          rintro e w1 ⟨rfl, rfl⟩
          go_wp2_with (first
            | (at_builtin
               refine list_append8 rfl (.tmp 64) (.tmp 66) 109 rfl rfl w.heap.size _ Q rfl HO2.out wr.heap.size 1 ch rfl HCE.out hql hbw2.size ?_
               intro g2 c2 w2 ho2 hb2
               have HO3 := Lib.hid ho2
               have hbw3 := hbw2.trans hb2
               clear ho2 hb2)
            | fail)
          refine ⟨⟨k + 1, _, Q ++ [ch], Lib.decDigits y, rfl, by go_num, rfl, by omega, by omega, HO3, Lib.hid ⟨?_, ?_, ?_⟩, Lib.hid ⟨Na.dec_all y, ?_, ?_⟩, Lib.hid (fun _ => by rw [Na.val_dec]), hbw3⟩, by simp [intOf]; omega⟩
          · rw [List.all_append, HQ.out.1]
            simp [HFA.out.1]
          · rw [Na.val_snoc, HQ.out.2.1, HFA.out.2, HST.out.1, HF.out.1]
          · rw [List.length_append, HQ.out.2.2]
            simp
            omega
          · rw [Na.val_dec, HST.out.2.1, HF.out.2]
          · rw [← tx_size]
            exact hysz
        · have OY := Lib.hid (ORR.out y (by omega) wr)
          have hc2 := cmp_ge y n hyn
          have MY := Lib.hid (MI.out y hysz (by omega) wr)
          obtain ⟨j1, j2⟩ := HJ.out
          obtain ⟨k1, k2⟩ := Na.div_less x n j hx10 (by rw [← j2]; omega)
          have HJ2 : Hid ((j + 1) * n ≤ x ∧ y - n = x - (j + 1) * n) := Lib.hid ⟨k2, by rw [j2, Nat.add_mul, Nat.one_mul]; omega⟩
          clear j1 j2 k2 HJ
          generalize cmpN y n = cy at *
          go_wp2_with fail
          refine OY.out.mono ?_
          rintro e w1 ⟨rfl, rfl⟩
          go_wp2_with fail
          refine MY.out.mono ?_
          rintro e w1 ⟨rfl, hb1⟩
          have HO2 := Lib.hid (HO.out.below hb1)
          have hb2 := Nb hb hb1
          go_wp2_with fail
          exact ⟨⟨j + 1, y - n, by omega, rfl, by go_num, by omega, HJ2, HO2, hb2⟩, by simp [intOf]; omega⟩
    · obtain rfl : k = s.size := by omega
      obtain ⟨q1, q2, q3⟩ := HQ.out
      obtain ⟨r1, r2, r3⟩ := HR.out
      have hqne : Q ≠ [] := fun e => by
        rw [e] at q3
        simp at q3
        omega
      have hrd := HRD.out (by omega)
      rw [HEND.out] at q2 r2
      have TX := Lib.hid (TR.out Q wr hqne (by omega) q1)
      rw [q2, ← HQQ.out] at TX
      have hR : (⟨R.toArray⟩ : ByteArray) = RR := by rw [HRR.out, tx_bytes, ← r2, ← hrd]
      rw [hR]
      have hcv := HO.out.string hqne
      clear q1 q2 q3 r1 r2 r3 hrd hR HQ HR HRD HO hqne
      go_wp2_with fail
      refine TX.out.mono ?_
      rintro e w1 ⟨rfl, rfl⟩
      go_wp2_with fail
      go_ret2
      exact ⟨rfl, hb⟩

theorem rover_tx (m n : Nat) (w : World) (hm : (tx m).size ≤ 900) (hn : (tx n).size ≤ 900) (h0 : 0 < n) :
    Calls Tryz.prog 121 #[.string (tx m), .string (tx n)] w fun e w' => e = .returned (.tuple #[.string (tx (m / n)), .string (tx (m % n))]) ∧ Below w.heap.size w w' := by
  by_cases h : m < n
  · exact rover_less m n w (by omega) (by omega) h
  · by_cases hs : (tx m).size ≤ 18
    · refine rover_short m n w hs ?_ h h0
      rcases Nat.lt_or_ge (tx m).size (tx n).size with k | k
      · exact absurd (Na.len_lt m n (by rw [← tx_size, ← tx_size]; exact k)) h
      · omega
    · exact rover_long m n w hm hn hs h h0

set_option maxHeartbeats 1000000 in
theorem rcommon_tx (m n : Nat) (w : World) (hm : (tx m).size ≤ 900) (hn : (tx n).size ≤ 900) :
    Calls Tryz.prog 120 #[.string (tx m), .string (tx n)] w fun e w' => e = .returned (.string (tx (Nat.gcd m n))) ∧ Below w.heap.size w w' := by
  go_enter Tryz.func120, Tryz.ntmps120
  go_wp2
  go_loopg [0, 1] n (fun gf a b wr => ∃ (x y : Nat), y ≤ gf ∧ a = .string (tx x) ∧ b = .string (tx y) ∧ (tx x).size ≤ 900 ∧ (tx y).size ≤ 900 ∧ Hid (Nat.gcd x y = Nat.gcd m n) ∧ Below w.heap.size w wr)
  case atStart => exact ⟨m, n, Nat.le_refl _, rfl, rfl, hm, hn, Lib.hid rfl, Below.refl _ _⟩
  case round =>
    obtain ⟨x, y, hy, rfl, rfl, hx9, hy9, HG, hb⟩ := hrel
    by_cases h0 : y = 0
    · have hg : Nat.gcd m n = x := by rw [← HG.out, h0, Nat.gcd_zero_right]
      have HGG := Lib.hid hg
      have hz : ((tx y).toList == [48]) = true := by rw [h0, tx_zero, ByteArray.toList_eq]; rfl
      clear h0 hg HG
      go_wp2_with fail
      go_ret
      rw [HGG.out]
      exact ⟨rfl, hb⟩
    · have OV := Lib.hid (rover_tx x y wr hx9 hy9 (by omega))
      have hmod : x % y < y := Nat.mod_lt _ (by omega)
      have HM := Lib.hid (And.intro hmod (show Nat.gcd y (x % y) = Nat.gcd m n by rw [← HG.out, Nat.gcd_comm x y, Nat.gcd_rec y x, Nat.gcd_comm]))
      have hz9 : (tx (x % y)).size ≤ 900 := by
        refine Nat.le_trans ?_ hy9
        rw [tx_size, tx_size]
        exact (Na.dec_len (Na.dec_len1 y)).2 (Nat.lt_trans hmod (Na.lt_dec y))
      have hz : ((tx y).toList == [48]) = false := ne48 (fun e => h0 (tx_inj (e.trans tx_zero.symm)))
      generalize tx (x / y) = qq at *
      clear hmod HG
      go_wp2_with fail
      refine OV.out.mono ?_
      rintro e w1 ⟨rfl, hb1⟩
      obtain ⟨g', rfl⟩ : ∃ g', gk = g' + 1 := ⟨gk - 1, by omega⟩
      have hyg : x % y ≤ g' := by have := HM.out.1; omega
      go_wp2_with fail
      go_roundg g'
      case measure => omega
      case rel => exact ⟨y, x % y, hyg, rfl, rfl, hy9, hz9, Lib.hid HM.out.2, Nb hb hb1⟩
end Go.Proofs.YtkbncdcphohmiaaGreatDoor
