/- Differences of numbers in limbs. -/
import Derived.Test.YtmnnaaifebajnaaGreatDoorNaC
import Derived.Lib.SliceRun
import Derived.Deep.AppendLies
import Derived.Laws.AppendOwn
set_option linter.unusedSimpArgs false
set_option linter.unusedVariables false
namespace Go.Proofs.YtmnnaaifebajnaaGreatDoor
open Go.RowKit
set_option maxRecDepth 100000

/-- 'append(v, x..)' in a plain region: v the call's own, x whatever. -/
theorem list_appendZ {ops : Array Oper} {rest : List Oper} {o : Oper} {a : Act} {w : World} {Q : Exit → Act → World → Prop} (hgd : o.guard = none) (s x : Operand) (t : TypeId) (ht : Tryz.prog.underlying t = some (.slice 3))
    (ho : o.op = .call { callee := .builtin .append, args := #[s, x], argTypes := #[t, t] }) (B : Nat) (v : Value) (l : List Int) (hs : a.eval s = v) (hown : w.ownsRow B 3 1 v l.length (l.map (Value.int .i64))) (ad : Addr) (m c : Nat) (news : List Int) (hm : news.length = m) (hx : a.eval x = .slice (some ad) m c)
    (hc : ∀ j u, (news.map (Value.int .i64))[j]? = some u → w.cell? (ad.add j) = some u) (hn : 0 < m) (hl : l.length + m ≤ 1000000) (hB : B ≤ w.heap.size)
    (h : ∀ g cap w', OwnZ w' B g cap (l ++ news) → Below B w w' → wpList Tryz.prog ops Q rest (a.put o.dst (.slice (some ⟨g, 0, none⟩) (l.length + m) cap)) w') : wpList Tryz.prog ops Q (o :: rest) a w := by
  obtain ⟨i0, hi, hz0, hz1, hz2⟩ := info_parts infoI
  refine wpList_append_lies w hgd s x t ho B 3 i0 (.int .i64 0) 1 8 ht hi hz0 hz1 hz2 rfl (by decide) v l.length _ hs hown ad m c (news.map (Value.int .i64)) hx (by simpa using hm) hc ?_ hn (by unfold maxLen; omega) (by omega) hB w.heap.size rfl ?_
  · intro u hu
    obtain ⟨x, _, rfl⟩ := List.mem_map.1 hu
    rfl
  intro g cap w' hown' hg hgv _
  refine h g cap w' ?_ ?_
  · unfold OwnZ
    rw [List.length_append, List.map_append, hm]
    exact hown'
  · refine (Below.refl _ _).grown hg hB (fun k hk => ?_)
    rcases hown.2 with ⟨rfl, _⟩ | ⟨g', cap', cur, rfl, h2, _⟩
    · simp [Value.ownBlock] at hk
    · simp [Value.ownBlock] at hk
      subst hk
      exact h2

theorem ints_src {w w' : World} {A : Addr} {a : List Nat} (hs : Ints w w.heap.size (some A) a) (hb : Below w.heap.size w w') :
    ∀ j u, ((a.map fun d : Nat => (d : Int)).map (Value.int .i64))[j]? = some u → w'.cell? (A.add j) = some u := by
  intro j u hj
  have hjl : j < a.length := by
    rcases Nat.lt_or_ge j a.length with h | h
    · exact h
    · rw [List.getElem?_eq_none (by simpa using h)] at hj; simp at hj
  obtain ⟨ad', e, _, hc⟩ := (hs.bt hb) j hjl
  cases e
  rw [hc]
  rw [List.getElem?_map, List.getElem?_map, List.getElem?_eq_getElem hjl] at hj
  rw [List.getD_eq_getElem?_getD, List.getElem?_eq_getElem hjl]
  exact hj

theorem own_none (w : World) (B g : Nat) (h : w.heap[g]? = some (.cells #[] 3 (0, 0))) (hB : B ≤ g) : w.ownsRow B 3 1 (.slice (some ⟨g, 0, none⟩) 0 0) 0 [] :=
  ⟨rfl, .inr ⟨g, 0, _, rfl, hB, h, Nat.le_refl _, by simp [maxLen], by simp, by simp⟩⟩

theorem eqnil (w : World) (a : Option Addr) (n c n' c' : Nat) : (binOp .eql 72 (.slice a n c) (.slice none n' c')).run Tryz.prog w = .ok (.bool a.isNone) w := Lib.run_eql_slice_nil w _ _ a n c n' c' Tryz.underlying72

theorem clone_any (A : Addr) (a : List Nat) (c : Nat) (w : World) (hs : Ints w w.heap.size (some A) a) (hl : a.length ≤ 1000) (h0 : 0 < a.length) :
    Calls Tryz.prog 99 #[.slice (some A) a.length c] w fun e w' => ∃ g cap, e = .returned (.slice (some ⟨g, 0, none⟩) a.length cap) ∧ OwnZ w' w.heap.size g cap (a.map fun d : Nat => (d : Int)) ∧ Below w.heap.size w w' := by
  have HS := Lib.hid (fun w' hb => ints_src (w' := w') hs hb)
  have hcl : (a.map fun d : Nat => (d : Int)).length = a.length := by simp
  generalize (a.map fun d : Nat => (d : Int)) = cs at *
  have q := eqnil
  go_enter Tryz.func99, Tryz.ntmps99
  go_wp2_with (first
    | (at_builtin
       refine list_appendZ rfl (.tmp 5) (.tmp 6) 72 rfl rfl w.heap.size _ [] rfl (own_none _ w.heap.size _ (heap_alloc_new _ _) (Nat.le_refl _)) A a.length c cs hcl rfl (HS.out _ ((Below.refl _ _).alloc (Nat.le_refl _) _)) h0 (by simp; omega) ((Below.refl _ _).alloc (Nat.le_refl _) _).size ?_
       intro g cap w2 ho2 hb2
       have HO := Lib.hid ho2
       have HB := Lib.hid (((Below.refl w.heap.size w).alloc (Nat.le_refl _) (.cells #[] 3)).trans hb2)
       clear ho2 hb2)
    | fail)
  go_ret
  refine ⟨_, _, ?_, HO.out, HB.out⟩
  simp

theorem clone_nil (A : Option Addr) (c : Nat) (w : World) (hc : c ≤ maxLen) :
    Calls Tryz.prog 99 #[.slice A 0 c] w fun e w' => ∃ A' c', e = .returned (.slice A' 0 c') ∧ c' ≤ maxLen ∧ Below w.heap.size w w' := by
  cases A with
  | none =>
    have q := eqnil
    go_enter Tryz.func99, Tryz.ntmps99
    go_wp2
    go_ret
    exact ⟨_, _, rfl, by simp [maxLen], Below.refl _ _⟩
  | some A =>
    have q := eqnil
    go_enter Tryz.func99, Tryz.ntmps99
    go_wp2
    go_ret
    exact ⟨_, _, rfl, by simp [maxLen], (Below.refl _ _).alloc (Nat.le_refl _) _⟩

theorem settled_nil (A : Option Addr) (c : Nat) (w : World) (hc : c ≤ maxLen) :
    Calls Tryz.prog 100 #[.slice A 0 c] w fun e w' => e = .returned (.slice A 0 c) ∧ w = w' := by
  have TR := Lib.hid (trimmed_any A [] c w (fun k hk => absurd hk (by simp)) (by simp) (by simp) hc (by simp))
  rw [Na.lv_nil, Na.lim_zero] at TR
  go_enter Tryz.func100, Tryz.ntmps100
  go_wp2
  go_loop [3, 4, 5, 8] (fun _ _ _ i => i = .int .i64 0) (fun _ _ _ _ => 0)
  case atStart => rfl
  case round =>
    obtain rfl := hrel
    go_wp2_with fail
    refine TR.out.mono ?_
    rintro e w1 ⟨rfl, rfl⟩
    go_wp2_with fail
    go_ret
    exact ⟨rfl, rfl⟩

set_option maxHeartbeats 1000000 in
theorem minus_any (A A' : Option Addr) (m n : Nat) (c c' : Nat) (w : World) (hs : Ints w w.heap.size A (Na.lim m)) (hs' : Ints w w.heap.size A' (Na.lim n)) (hl : (Na.lim m).length ≤ 1000) (hc : c ≤ maxLen) (hmn : n ≤ m) :
    Calls Tryz.prog 78 #[.slice A (Na.lim m).length c, .slice A' (Na.lim n).length c'] w (GivesN (m - n) w) := by
  unfold GivesN
  by_cases h0 : m = 0
  · have hn0 : n = 0 := by omega
    subst h0
    subst hn0
    rw [Na.lim_zero]
    have HC := Lib.hid (clone_nil A c w hc)
    have HS0 := Lib.hid (fun A c w hc => settled_nil A c w hc)
    go_enter Tryz.func78, Tryz.ntmps78
    go_wp2_with fail
    refine HC.out.mono ?_
    rintro e w1 ⟨A1, c1, rfl, hc1, hb1⟩
    go_wp2_with fail
    go_loop [6, 7, 12] (fun _ _ i => i = .int .i64 0) (fun _ _ _ => 0)
    case atStart => rfl
    case round =>
      obtain rfl := hrel
      go_wp2_with fail
      refine (HS0.out A1 c1 w1 hc1).mono ?_
      rintro e w2 ⟨rfl, rfl⟩
      go_wp2_with fail
      go_ret
      exact ⟨A1, c1, rfl, fun k hk => absurd hk (by simp), by simp, hc1, hb1⟩
  · have hla : 0 < (Na.lim m).length := by
      rcases Nat.eq_zero_or_pos (Na.lim m).length with h | h
      · exact absurd (Na.lim_nil.1 (List.eq_nil_of_length_eq_zero h)) h0
      · exact h
    obtain ⟨AA, rfl, _, _⟩ := hs 0 hla
    have hle : (Na.lim n).length ≤ (Na.lim m).length := Na.lim_length.2 (Nat.lt_of_le_of_lt hmn (Na.lim_length.1 (Nat.le_refl _)))
    have HB := Lib.hid (Na.lim_length.1 (Nat.le_refl (Na.lim m).length))
    have HC := Lib.hid (clone_any AA (Na.lim m) c w hs hl hla)
    have HS' := Lib.hid hs'
    have HD := Lib.hid (Na.lim_lt m)
    have HD' := Lib.hid (Na.lim_lt n)
    have HVA := Lib.hid (Na.lv_lim m)
    have HVB := Lib.hid (Na.lv_lim n)
    generalize Na.lim m = a at *
    generalize Na.lim n = b at *
    clear hs hs'
    go_enter Tryz.func78, Tryz.ntmps78
    go_wp2_with fail
    refine HC.out.mono ?_
    rintro e w1 ⟨g, cap, rfl, ho, hb1⟩
    have HO1 := Lib.hid ho
    clear ho
    go_wp2_with fail
    go_loopw [6, 7, 12] (fun _ _ i wr => ∃ (k : Nat) (L : List Int), k ≤ b.length ∧ i = .int .i64 (k : Int) ∧ Hid (L.length = a.length) ∧ Hid (Na.lz L = (m : Int) - ((Na.lv (b.take k) : Nat) : Int)) ∧ Hid (∀ z ∈ L, -(1000000 * (k : Int)) ≤ z ∧ z ≤ 1000000) ∧ Hid (OwnZ wr w.heap.size g cap L) ∧ Below w.heap.size w wr) (fun _ _ i _ => b.length - (intOf i).toNat)
    case atStart =>
      refine ⟨0, a.map fun d : Nat => (d : Int), by omega, rfl, Lib.hid (by simp), Lib.hid ?_, Lib.hid ?_, Lib.hid HO1.out, hb1⟩
      · rw [Na.lz_nat, HVA.out]; simp [Na.lv_nil]
      · intro z hz
        obtain ⟨d, hd1, rfl⟩ := List.mem_map.1 hz
        have := HD.out d hd1
        omega
    case round =>
      clear HO1 HC
      obtain ⟨k, L, hk, rfl, HL, HV, HZ, HO, hb⟩ := hrel
      by_cases hlt : k < b.length
      · obtain ⟨ad, rfl, _, hcb⟩ := (HS'.out.bt hb) k hlt
        have hcell := HO.out.cell k (by rw [HL.out]; omega)
        have hfr := HO.out.frozen k
        have hll := HL.out
        have hz := HZ.out (L.getD k 0) (getD_mem (by rw [HL.out]; omega))
        have hy := Na.getD_lt HD'.out k hlt
        have FIN := Lib.hid (fun u : Int => And.intro (HO.out.stored k u) (And.intro (HO.out.below hb k u) (Na.lz_set L k u (by rw [HL.out]; omega))))
        have HT := Lib.hid (Na.lv_take b k hlt)
        have hka : k < a.length := by omega
        generalize L.getD k 0 = z at *
        generalize b.getD k 0 = y at *
        clear HS' HB hll
        go_wp2
        have hf := FIN.out (z - (y : Int))
        refine ⟨⟨k + 1, L.set k (z - (y : Int)), by omega, by go_num, Lib.hid (by rw [List.length_set]; exact HL.out), Lib.hid ?_, Lib.hid ?_, Lib.hid hf.1, hf.2.1⟩, by simp [intOf]; omega⟩
        · rw [hf.2.2, HV.out, HT.out, show z - (y : Int) - z = -(y : Int) by omega]
          simp only [Int.natCast_add, Int.natCast_mul, Int.mul_neg]
          omega
        · intro x hx
          rcases mem_set' hx with h | h
          · have := HZ.out x h
            omega
          · omega
      · obtain rfl : k = b.length := by omega
        rw [List.take_length, HVB.out] at HV
        have hmn' : n ≤ m := hmn
        have hm : m < 1000000 ^ a.length := by have := HB.out; exact this
        have hout : Na.lz L = ((m - n : Nat) : Int) := by rw [HV.out]; omega
        have SE := Lib.hid (settled_any w.heap.size g cap (m - n) L wr (by exact HO.out) (by rw [HL.out]; omega) (fun z hz => by have := HZ.out z hz; omega) hout (by rw [HL.out]; omega))
        have hcm : cap ≤ maxLen := HO.out.facts.2.2.2
        have hcl : a.length ≤ cap := by have := HO.out.facts.2.2.1; rwa [HL.out] at this
        rw [HL.out] at SE
        have HLL := Lib.hid (Na.lim_length.2 (show m - n < 1000000 ^ a.length by omega))
        clear HS' HO HZ HV hm hout HVA HVB
        go_wp2_with fail
        refine SE.out.mono ?_
        rintro e w3 ⟨rfl, hi, hb3⟩
        have HI := Lib.hid hi
        clear hi
        go_wp2_with fail
        go_ret
        exact ⟨_, _, rfl, HI.out, Nat.le_trans HLL.out hcl, hcm, Below.trans hb hb3⟩
end Go.Proofs.YtmnnaaifebajnaaGreatDoor
