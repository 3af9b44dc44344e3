/- Sums, differences and products of numbers in limbs. -/
import Derived.Test.YtmnnaaifebajnaaGreatDoorNaB
import Derived.Deep.OwnRows
import Derived.Laws.CopyOwn
import Derived.Deep.AppendLies
set_option linter.unusedSimpArgs false
set_option linter.unusedVariables false
namespace Go.Proofs.YtmnnaaifebajnaaGreatDoor
open Go.RowKit
set_option maxRecDepth 100000

theorem infoI : (Tryz.prog.info? 3).map (fun i => (i.zero, i.size, i.bytes)) = some (some (.int .i64 0), 1, 8) := by kernel_rfl

theorem own_of_row {w : World} {B g : Nat} {l : List Int} (h : w.heap[g]? = some (.cells (l.map (Value.int .i64)).toArray 3 (0, 0))) (hB : B ≤ g) (hl : l.length ≤ maxLen) : OwnZ w B g l.length l :=
  ⟨by simp, .inr ⟨g, l.length, _, rfl, hB, h, Nat.le_refl _, hl, by simp, by simp [List.take_of_length_le]⟩⟩

/-- 'make([]int, n)'. -/
theorem list_make {w : World} {ops : Array Oper} {rest : List Oper} {o : Oper} {a : Act} {Q : Exit → Act → World → Prop} (hg : o.guard = none) (l c : Operand) (t : TypeId) (hop : o.op = Op.makeSlice t l c) (ht : Tryz.prog.underlying t = some (.slice 3))
    (n : Nat) (hn : n ≤ 1000000) (hl : a.eval l = .int .i64 (n : Int)) (hc : a.eval c = .int .i64 (n : Int))
    (h : ∀ w', w'.heap[w.heap.size]? = some (.cells ((List.replicate n (0 : Int)).map (Value.int .i64)).toArray 3 (0, 0)) → Below w.heap.size w w' → wpList Tryz.prog ops Q rest (a.put o.dst (.slice (some ⟨w.heap.size, 0, none⟩) n n)) w') :
    wpList Tryz.prog ops Q (o :: rest) a w := by
  obtain ⟨i0, hi, hz0, hz1, hz2⟩ := info_parts infoI
  refine wpList_plain hg fun K hK' => ?_
  have hrun := run_make_row (P := Tryz.prog) t 3 i0 (.int .i64 0) ht hi hz0 hz1 rfl .i64 .i64 n (by rw [hz2]; omega) (by omega) w
  unfold Oper.wp
  simp [execOp, hop, hl, hc, hrun, Result.andThen]
  refine hK' _ _ (h _ ?_ ((Below.refl _ _).alloc (Nat.le_refl _) _))
  rw [heap_alloc_new]
  have e : madeCells #[Value.int .i64 0] n = ((List.replicate n (0 : Int)).map (Value.int .i64)).toArray := by
    apply Array.ext'
    rw [toList_madeCells_one]
    simp
  rw [e]

/-- What a function that makes a number returns. -/
def GivesN (n : Nat) (w : World) (e : Ending) (w' : World) : Prop :=
  ∃ A c, e = .returned (.slice A (Na.lim n).length c) ∧ Ints w' w'.heap.size A (Na.lim n) ∧ (Na.lim n).length ≤ c ∧ c ≤ maxLen ∧ Below w.heap.size w w'

theorem mem_set' {l : List Int} {k : Nat} {u z : Int} (h : z ∈ l.set k u) : z ∈ l ∨ z = u := by
  rcases List.mem_or_eq_of_mem_set h with h | h
  · exact .inl h
  · exact .inr h

theorem Ints.bt {w w' : World} {A : Option Addr} {l : List Nat} (h : Ints w w.heap.size A l) (hb : Below w.heap.size w w') : Ints w' w'.heap.size A l := fun k hk => by
  obtain ⟨ad, rfl, hlt, hc⟩ := h k hk
  have e : (ad.add k).block = ad.block := by
    unfold Addr.add
    split <;> rfl
  exact ⟨ad, rfl, Nat.lt_of_lt_of_le hlt hb.size, (hb.cell (p := ad.add k) (by rw [e]; exact hlt)).trans hc⟩

theorem splice_row (a : List Nat) (n : Nat) : splice ((List.replicate n (0 : Int)).map (Value.int .i64)) 0 (a.map fun d : Nat => Value.int .i64 (d : Int)) = ((a.map fun d : Nat => (d : Int)) ++ List.replicate (n - a.length) 0).map (Value.int .i64) := by
  unfold splice
  simp

theorem infoIs : (Tryz.prog.info? 3).map (·.size) = some 1 := by kernel_rfl

theorem src_ints {w w' : World} {A : Option Addr} {a : List Nat} (hs : Ints w w.heap.size A a) (hb : Below w.heap.size w w') (h0 : 0 < (a.map fun d : Nat => Value.int .i64 (d : Int)).length) :
    ∃ ad, A = some ad ∧ ∀ j v, (a.map fun d : Nat => Value.int .i64 (d : Int))[j]? = some v → w'.cell? (ad.add j) = some v := by
  have h0 : 0 < a.length := by simpa using h0
  obtain ⟨ad, rfl, _, _⟩ := hs 0 h0
  refine ⟨ad, rfl, fun j v hj => ?_⟩
  have hjl : j < a.length := by
    rw [List.getElem?_map] at hj
    rcases Nat.lt_or_ge j a.length with h | h
    · exact h
    · rw [List.getElem?_eq_none h] at hj; simp at hj
  obtain ⟨ad', e, _, hc⟩ := (hs.bt hb) j hjl
  cases e
  rw [hc]
  rw [List.getElem?_map, List.getElem?_eq_getElem hjl] at hj
  rw [List.getD_eq_getElem?_getD, List.getElem?_eq_getElem hjl]
  exact hj

theorem one_ints (a : List Nat) : ∀ v ∈ a.map (fun d : Nat => Value.int .i64 (d : Int)), v.oneCell' = true := by
  intro v hv
  obtain ⟨x, _, rfl⟩ := List.mem_map.1 hv
  rfl

theorem getD_mem {l : List Int} {k : Nat} (h : k < l.length) : l.getD k 0 ∈ l := by
  rw [List.getD_eq_getElem?_getD, List.getElem?_eq_getElem h]
  exact List.getElem_mem h

theorem add_start {w2 : World} {B N : Nat} {a : List Nat} (h : w2.heap[B]? = some (.cells (((a.map fun d : Nat => (d : Int)) ++ List.replicate (N - a.length) 0).map (Value.int .i64)).toArray 3 (0, 0))) (hN : a.length < N) (hN2 : N ≤ 1000000) (hd : ∀ d ∈ a, d < 1000000) :
    ∃ L : List Int, L.length = N ∧ Na.lz L = (Na.lv a : Int) ∧ (∀ z ∈ L, 0 ≤ z ∧ z ≤ 1000000) ∧ OwnZ w2 B B N L := by
  have hL : ((a.map fun d : Nat => (d : Int)) ++ List.replicate (N - a.length) 0).length = N := by simp; omega
  refine ⟨(a.map fun d : Nat => (d : Int)) ++ List.replicate (N - a.length) 0, hL, ?_, ?_, ?_⟩
  · rw [Na.lz_app, Na.lz_nat, Na.lz_zeros]; simp
  · intro z hz
    rcases List.mem_append.1 hz with h1 | h1
    · obtain ⟨d, hd1, rfl⟩ := List.mem_map.1 h1
      have := hd d hd1
      omega
    · have := (List.mem_replicate.1 h1).2
      omega
  · have := own_of_row h (Nat.le_refl B) (by rw [hL]; unfold maxLen; omega)
    rwa [hL] at this

set_option maxHeartbeats 1000000 in
theorem plus_any (A A' : Option Addr) (a b : List Nat) (c c' : Nat) (w : World) (hs : Ints w w.heap.size A a) (hs' : Ints w w.heap.size A' b) (hl : a.length ≤ 1000) (hl' : b.length ≤ 1000) (hd : ∀ d ∈ a, d < 1000000) (hd' : ∀ d ∈ b, d < 1000000) :
    Calls Tryz.prog 95 #[.slice A a.length c, .slice A' b.length c'] w (GivesN (Na.lv a + Na.lv b) w) := by
  have HS := Lib.hid hs
  have HS' := Lib.hid hs'
  have HD := Lib.hid hd
  have HD' := Lib.hid hd'
  unfold GivesN
  obtain ⟨N, hN⟩ : ∃ N : Nat, N = max a.length b.length + 1 := ⟨_, rfl⟩
  have hN1 : a.length < N := by omega
  have hN2 : b.length < N := by omega
  have hN3 : N ≤ 1001 := by omega
  have HB : Hid (Na.lv a + Na.lv b < 1000000 ^ N) := by
    refine Lib.hid ?_
    have h1 := Na.lv_lt a hd
    have h2 := Na.lv_lt b hd'
    have h3 : 1000000 ^ a.length ≤ 1000000 ^ (N - 1) := Nat.pow_le_pow_right (by omega) (by omega)
    have h4 : 1000000 ^ b.length ≤ 1000000 ^ (N - 1) := Nat.pow_le_pow_right (by omega) (by omega)
    have h5 : 1000000 ^ N = 1000000 ^ (N - 1) * 1000000 := by rw [← Nat.pow_succ]; congr 1; omega
    omega
  have ST := Lib.hid (fun (w2 : World) (B : Nat) h => add_start (w2 := w2) (B := B) (N := N) h hN1 (by omega) hd)
  have hcl : (a.map fun d : Nat => Value.int .i64 (d : Int)).length = a.length := by simp
  have HS1 := Lib.hid (fun w' hb h0 => src_ints (w' := w') hs hb h0)
  have HR := Lib.hid (splice_row a N)
  have H1 := Lib.hid (one_ints a)
  obtain ⟨cs, hcs⟩ : ∃ cs, cs = a.map fun d : Nat => Value.int .i64 (d : Int) := ⟨_, rfl⟩
  rw [← hcs] at hcl HS1 HR H1
  clear hs hs' hd hd' hcs
  obtain ⟨z0, hz0⟩ : ∃ z0, z0 = (List.replicate N (0 : Int)).map (Value.int .i64) := ⟨_, rfl⟩
  have hzl : z0.length = N := by rw [hz0]; simp
  have HZ0 := Lib.hid hz0
  rw [← hz0] at HR
  rw [← HR.out] at ST
  clear hz0
  by_cases hlt : a.length < b.length
  · have HN' := Lib.hid (show N = b.length + 1 by omega)
    clear hN
    go_enter Tryz.func95, Tryz.ntmps95
    go_wp2_with (first
      | (at_make
         refine list_make rfl (.tmp 13) (.tmp 13) 71 rfl rfl N (by omega) (by show Value.int .i64 _ = _; rw [HN'.out]; rfl) (by show Value.int .i64 _ = _; rw [HN'.out]; rfl) ?_
         rw [← HZ0.out]
         intro w1 hh1 hb1
         have HH1 := Lib.hid hh1
         clear hh1
         suffices hsuf : Hid (wpList _ _ _ _ _ _) from hsuf.out)
      | fail)
    refine Lib.hid ?_
    go_wp2_with (first
      | (with_reducible show wpList _ _ _ _ _ _
         refine wpList_copy_splice (o := ⟨some 17, _, _, _, _, _⟩) rfl (.tmp 15) (.tmp 16) 71 72 rfl 3 Tryz.underlying71 infoIs (some ⟨w.heap.size, 0, none⟩) A N N a.length c rfl rfl w.heap.size 0 z0 3 HH1.out cs ?n1b ?n2b ?n3b H1.out w.heap.size w hb1 (Nat.le_refl _) ?n4b
         case n1b => rw [hcl]; exact (Nat.min_eq_left (by omega)).symm
         case n2b => exact fun h0 => ⟨rfl, HS1.out _ hb1 h0⟩
         case n3b => omega
         intro w2 HH2 hb2)
      | fail)
    obtain ⟨L0, HL0⟩ := Lib.hid (ST.out _ _ HH2.out)
    go_loopw [6, 7, 20] (fun _ _ i wr => ∃ (k : Nat) (L : List Int), k ≤ b.length ∧ i = .int .i64 (k : Int) ∧ Hid (L.length = N) ∧ Hid (Na.lz L = ((Na.lv a + Na.lv (b.take k) : Nat) : Int)) ∧ Hid (∀ z ∈ L, 0 ≤ z ∧ z ≤ 1000000 * ((k : Int) + 1)) ∧ Hid (OwnZ wr w.heap.size w.heap.size N L) ∧ Below w.heap.size w wr) (fun _ _ i _ => b.length - (intOf i).toNat)
    case atStart => exact ⟨0, L0, by omega, rfl, Lib.hid HL0.1, Lib.hid (by rw [HL0.2.1]; simp [Na.lv_nil]), Lib.hid (by intro z hz; have := HL0.2.2.1 z hz; omega), Lib.hid HL0.2.2.2, hb2⟩
    case round =>
      clear HL0 HH2 HR HZ0 ST HN' hzl
      obtain ⟨k, L, hk, rfl, HL, HV, HZ, HO, hb⟩ := hrel
      by_cases hlt : k < b.length
      · obtain ⟨ad, rfl, _, hcb⟩ := (HS'.out.bt hb) k hlt
        have hcell := HO.out.cell k (by rw [HL.out]; omega)
        have hfr := HO.out.frozen k
        have hz := HZ.out (L.getD k 0) (getD_mem (by rw [HL.out]; omega))
        have hy := Na.getD_lt HD'.out k hlt
        have FIN := Lib.hid (fun u : Int => And.intro (HO.out.stored k u) (And.intro (HO.out.below hb k u) (Na.lz_set L k u (by rw [HL.out]; omega))))
        have HT := Lib.hid (Na.lv_take b k hlt)
        generalize L.getD k 0 = z at *
        generalize b.getD k 0 = y at *
        clear HS HS' HB
        go_wp2
        have hf := FIN.out (z + (y : Int))
        refine ⟨⟨k + 1, L.set k (z + (y : Int)), by omega, by go_num, Lib.hid (by rw [List.length_set]; exact HL.out), Lib.hid ?_, Lib.hid ?_, Lib.hid hf.1, hf.2.1⟩, by simp [intOf]; omega⟩
        · rw [hf.2.2, HV.out, HT.out, show z + (y : Int) - z = (y : Int) by omega]
          simp only [Int.natCast_add, Int.natCast_mul]
          omega
        · intro x hx
          rcases mem_set' hx with h | h
          · have := HZ.out x h
            omega
          · omega
      · obtain rfl : k = b.length := by omega
        rw [List.take_length] at HV
        have SE := Lib.hid (settled_any w.heap.size w.heap.size N (Na.lv a + Na.lv b) L wr (by exact HO.out) (by rw [HL.out]; omega) (fun z hz => by have := HZ.out z hz; omega) HV.out (by rw [HL.out]; exact HB.out))
        rw [HL.out] at SE
        have hNm : N ≤ maxLen := HO.out.facts.2.2.2
        have HLL := Lib.hid (Na.lim_length.2 HB.out)
        clear HS HS' HO HZ HV
        go_wp2_with fail
        refine SE.out.mono ?_
        rintro e w3 ⟨rfl, hi, hb3⟩
        have HI := Lib.hid hi
        clear hi
        go_wp2_with fail
        go_ret
        exact ⟨_, _, rfl, HI.out, HLL.out, hNm, Below.trans hb hb3⟩
  · have HN' := Lib.hid (show N = a.length + 1 by omega)
    clear hN
    go_enter Tryz.func95, Tryz.ntmps95
    go_wp2_with (first
      | (at_make
         refine list_make rfl (.tmp 13) (.tmp 13) 71 rfl rfl N (by omega) (by show Value.int .i64 _ = _; rw [HN'.out]; rfl) (by show Value.int .i64 _ = _; rw [HN'.out]; rfl) ?_
         rw [← HZ0.out]
         intro w1 hh1 hb1
         have HH1 := Lib.hid hh1
         clear hh1
         suffices hsuf : Hid (wpList _ _ _ _ _ _) from hsuf.out)
      | fail)
    refine Lib.hid ?_
    go_wp2_with (first
      | (with_reducible show wpList _ _ _ _ _ _
         refine wpList_copy_splice (o := ⟨some 17, _, _, _, _, _⟩) rfl (.tmp 15) (.tmp 16) 71 72 rfl 3 Tryz.underlying71 infoIs (some ⟨w.heap.size, 0, none⟩) A N N a.length c rfl rfl w.heap.size 0 z0 3 HH1.out cs ?n1a ?n2a ?n3a H1.out w.heap.size w hb1 (Nat.le_refl _) ?n4a
         case n1a => rw [hcl]; exact (Nat.min_eq_left (by omega)).symm
         case n2a => exact fun h0 => ⟨rfl, HS1.out _ hb1 h0⟩
         case n3a => omega
         intro w2 HH2 hb2)
      | fail)
    obtain ⟨L0, HL0⟩ := Lib.hid (ST.out _ _ HH2.out)
    go_loopw [6, 7, 20] (fun _ _ i wr => ∃ (k : Nat) (L : List Int), k ≤ b.length ∧ i = .int .i64 (k : Int) ∧ Hid (L.length = N) ∧ Hid (Na.lz L = ((Na.lv a + Na.lv (b.take k) : Nat) : Int)) ∧ Hid (∀ z ∈ L, 0 ≤ z ∧ z ≤ 1000000 * ((k : Int) + 1)) ∧ Hid (OwnZ wr w.heap.size w.heap.size N L) ∧ Below w.heap.size w wr) (fun _ _ i _ => b.length - (intOf i).toNat)
    case atStart => exact ⟨0, L0, by omega, rfl, Lib.hid HL0.1, Lib.hid (by rw [HL0.2.1]; simp [Na.lv_nil]), Lib.hid (by intro z hz; have := HL0.2.2.1 z hz; omega), Lib.hid HL0.2.2.2, hb2⟩
    case round =>
      clear HL0 HH2 HR HZ0 ST HN' hzl
      obtain ⟨k, L, hk, rfl, HL, HV, HZ, HO, hb⟩ := hrel
      by_cases hlt : k < b.length
      · obtain ⟨ad, rfl, _, hcb⟩ := (HS'.out.bt hb) k hlt
        have hcell := HO.out.cell k (by rw [HL.out]; omega)
        have hfr := HO.out.frozen k
        have hz := HZ.out (L.getD k 0) (getD_mem (by rw [HL.out]; omega))
        have hy := Na.getD_lt HD'.out k hlt
        have FIN := Lib.hid (fun u : Int => And.intro (HO.out.stored k u) (And.intro (HO.out.below hb k u) (Na.lz_set L k u (by rw [HL.out]; omega))))
        have HT := Lib.hid (Na.lv_take b k hlt)
        generalize L.getD k 0 = z at *
        generalize b.getD k 0 = y at *
        clear HS HS' HB
        go_wp2
        have hf := FIN.out (z + (y : Int))
        refine ⟨⟨k + 1, L.set k (z + (y : Int)), by omega, by go_num, Lib.hid (by rw [List.length_set]; exact HL.out), Lib.hid ?_, Lib.hid ?_, Lib.hid hf.1, hf.2.1⟩, by simp [intOf]; omega⟩
        · rw [hf.2.2, HV.out, HT.out, show z + (y : Int) - z = (y : Int) by omega]
          simp only [Int.natCast_add, Int.natCast_mul]
          omega
        · intro x hx
          rcases mem_set' hx with h | h
          · have := HZ.out x h
            omega
          · omega
      · obtain rfl : k = b.length := by omega
        rw [List.take_length] at HV
        have SE := Lib.hid (settled_any w.heap.size w.heap.size N (Na.lv a + Na.lv b) L wr (by exact HO.out) (by rw [HL.out]; omega) (fun z hz => by have := HZ.out z hz; omega) HV.out (by rw [HL.out]; exact HB.out))
        rw [HL.out] at SE
        have hNm : N ≤ maxLen := HO.out.facts.2.2.2
        have HLL := Lib.hid (Na.lim_length.2 HB.out)
        clear HS HS' HO HZ HV
        go_wp2_with fail
        refine SE.out.mono ?_
        rintro e w3 ⟨rfl, hi, hb3⟩
        have HI := Lib.hid hi
        clear hi
        go_wp2_with fail
        go_ret
        exact ⟨_, _, rfl, HI.out, HLL.out, hNm, Below.trans hb hb3⟩
end Go.Proofs.YtmnnaaifebajnaaGreatDoor
