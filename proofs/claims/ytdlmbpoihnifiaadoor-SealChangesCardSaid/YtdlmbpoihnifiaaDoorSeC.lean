/- The reference's Power, Start, Key and Keys (layer 3). The reference's Digits: a list of numbers that the call makes itself (layer 3). The reference's Digit at a digit, and Digits (layer 3). -/
import Derived.Test.YtdlmbpoihnifiaaDoorSeMade
import Derived.Test.YtdlmbpoihnifiaaDoorTrQ
import Derived.Test.YtdlmbpoihnifiaaDoorTrO
import Derived.Test.YtdlmbpoihnifiaaDoorDgRC
import Derived.Test.YtdlmbpoihnifiaaDoorDgU
import Derived.WalkKit
import Derived.Below
import Derived.LoopTactic
import Derived.Outline
import Derived.Lib.Hide
import Derived.Test.YtdlmbpoihnifiaaDoorDgS
import Derived.Deep.AppendLies
import Derived.OwnWalk
import Derived.Test.YtdlmbpoihnifiaaDoorDgR
set_option linter.unusedSimpArgs false
set_option linter.unusedVariables false
namespace Go.Proofs.YtdlmbpoihnifiaaDoor
open Go.RowKit
set_option maxRecDepth 100000

theorem power_any (n : Nat) (w : World) (hn : n ≤ 30) :
    Calls Tryd.prog 33 #[.int .i64 (n : Int)] w fun e w' => e = .returned (.int .i64 ((2 ^ n : Nat) : Int)) ∧ w = w' := by
  have HP := Lib.hid (fun k (hk : k ≤ 30) => Nat.pow_le_pow_right (n := 2) (by omega) hk)
  go_enter Tryd.func33, Tryd.ntmps33
  go_wp2
  go_loop [3, 4] (fun o i => ∃ k q : Nat, k ≤ n ∧ i = .int .i64 k ∧ o = .int .i64 (q : Int) ∧ q = 2 ^ k) (fun _ i => n - (intOf i).toNat)
  case atStart => exact ⟨0, 1, by omega, rfl, rfl, rfl⟩
  case round =>
    obtain ⟨k, q, hk, rfl, rfl, hq⟩ := hrel
    have hb : q ≤ 1073741824 := by rw [hq]; exact HP.out k (by omega)
    have HQ := Lib.hid hq
    clear hq
    by_cases hlt : k < n
    · go_wp2
      exact ⟨⟨k + 1, 2 * q, by omega, by go_num, by go_num, by rw [Nat.pow_succ, ← HQ.out]; omega⟩, by simp [intOf]; omega⟩
    · obtain rfl : k = n := by omega
      have e : ((q : Nat) : Int) = ((2 ^ k : Nat) : Int) := by rw [HQ.out]
      have HE := Lib.hid e
      clear e
      go_wp2
      go_ret
      exact ⟨ret_int HE.out, rfl⟩

theorem dec_size (n : Nat) (h : n < 18446744073709551616) : (Se.dec n).size ≤ 1000000000 := by
  rw [Se.dec, bsize]
  have := dec_length n h
  omega

theorem start_any (s : ByteArray) (i k : Nat) (w : World) (hs : s.size ≤ 1000000000) (hi : i ≤ 1000000) (hk : k ≤ 1000000) :
    Calls Tryd.prog 36 #[.string s, .int .i64 (i : Int), .int .i64 (k : Int)] w fun e w' => e = .returned (.string (Se.start s i k)) ∧ Below w.heap.size w w' := by
  have HL := Lib.hid (rlist_lit w [s, Se.dec i, Se.dec k] (sz3 hs (dec_size i (by omega)) (dec_size k (by omega))) (by simp))
  have D1 := Lib.hid (fun w' => decimal_any i w' (by omega))
  have D2 := Lib.hid (fun w' => decimal_any k w' (by omega))
  go_enter Tryd.func36, Tryd.ntmps36
  go_wp2_with fail
  refine (D1.out w).mono ?_
  rintro e w1 ⟨rfl, rfl⟩
  go_wp2_with fail
  refine (D2.out w).mono ?_
  rintro e w1 ⟨rfl, rfl⟩
  go_wp2_with fail
  refine HL.out.mono ?_
  rintro e w1 ⟨rfl, hb1⟩
  go_wp2
  go_ret
  exact ⟨rfl, hb1⟩

theorem chain_val (x : ByteArray) (n : Nat) (hn : n ≤ 1000) (w : World) (hs : x.size ≤ 140737488355328) :
    Calls Tryd.prog 35 #[.string x, .int .i64 (n : Int)] w fun e w' => e = .returned (.string (Se.ch x n)) ∧ w = w' := by
  have := rchain_any x n w hs
  rw [show (min (n : Int) 1000).toNat = n by omega] at this
  rwa [Se.ch_chain]

theorem fins_room (l : List ByteArray) (hz : ∀ s ∈ l, s.size ≤ 1000) (hl : l.length ≤ 1000) : (joined l).length ≤ 140737488355328 ∧ room l ≤ 140737488355328 := by
  have h1 := joined_le_room l fun s hs => by have := hz s hs; omega
  have h2 := room_le 1000 l hz
  have h3 : l.length * (1000 + 21) ≤ 1000 * (1000 + 21) := Nat.mul_le_mul_right _ hl
  omega

theorem map_range_snoc {α : Type} (f : Nat → α) (k : Nat) : (List.range (k + 1)).map f = (List.range k).map f ++ [f k] := by
  rw [List.range_succ, List.map_append]
  rfl

set_option maxHeartbeats 1000000 in
theorem key_any (s : ByteArray) (i : Nat) (w : World) (hs : s.size ≤ 1000000000) (hi : i ≤ 1000000) :
    Calls Tryd.prog 61 #[.string s, .int .i64 (i : Int)] w fun e w' => e = .returned (.string (Se.key s i)) ∧ Below w.heap.size w w' := by
  go_enter Tryd.func61, Tryd.ntmps61
  go_wp2
  go_loopw [5, 6] (fun v j wr => ∃ k : Nat, k ≤ 18 ∧ j = .int .i64 k ∧ Below w.heap.size w wr ∧ OwnS wr w.heap.size v ((List.range k).map fun k => Se.ch (Se.start s i k) 15)) (fun _ j _ => 18 - (intOf j).toNat)
  case atStart => exact ⟨0, by omega, rfl, Below.refl _ _, OwnS.nil _ _⟩
  case round =>
    obtain ⟨k, hk, rfl, hb, hown⟩ := hrel
    by_cases hlt : k < 18
    · have ST := Lib.hid (start_any s i k wr hs hi (by omega))
      have CV := Lib.hid (fun w' => chain_val (Se.start s i k) 15 (by omega) w' (by rw [Se.start, Tr.dg_size]; omega))
      have MS := Lib.hid (map_range_snoc (fun k => Se.ch (Se.start s i k) 15) k)
      have hlen : ((List.range k).map fun k => Se.ch (Se.start s i k) 15).length ≤ 1000000 := by simp; omega
      have HB := Lib.hid hb
      have HO := Lib.hid hown
      clear hb hown
      generalize Se.start s i k = st at *
      generalize ((List.range k).map fun k => Se.ch (Se.start s i k) 15) = l at *
      generalize Se.ch st 15 = c at *
      go_wp2_with fail
      refine ST.out.mono ?_
      rintro e w1 ⟨rfl, hb1⟩
      go_wp2_with fail
      refine (CV.out w1).mono ?_
      rintro e w2 ⟨rfl, rfl⟩
      have ho1 := own_below (own_below HO.out hb1) ((Below.refl _ _).alloc (Nat.le_refl _) (.cells #[.string c] 9))
      have hb1' := HB.out.trans (hb1.mono HB.out.size)
      go_wp2_with (first
        | (at_builtin
           refine list_append1 rfl (.tmp 11) (.tmp 17) rfl w.heap.size _ l rfl ho1 _ rfl c 9 (heap_alloc_new w1 _) hlen (hb1'.alloc hb1'.size _).size ?_
           intro v2 w2 ho2 hb2)
        | fail)
      exact ⟨⟨k + 1, by omega, by go_num, (hb1'.alloc hb1'.size _).trans hb2, by rw [MS.out]; exact ho2⟩, by simp [intOf]; omega⟩
    · obtain rfl : k = 18 := by omega
      obtain ⟨A1, c1, rfl, hs1, hc1, hm1⟩ := hown.form
      have hz : ∀ x ∈ (List.range 18).map (fun k => Se.ch (Se.start s i k) 15), x.size ≤ 1000 := by
        intro x hx
        obtain ⟨k, _, rfl⟩ := List.mem_map.1 hx
        rw [Se.ch_size]
        omega
      have hr := fins_room _ hz (by simp)
      have LR := Lib.hid (list_ref_any A1 c1 _ wr hs1 (by simp [maxLen]) hr.1 hr.2)
      have HB := Lib.hid hb
      clear hs1 hb hown hz hr
      have hlen : ((List.range 18).map fun k => Se.ch (Se.start s i k) 15).length = 18 := by simp
      rw [hlen] at hc1 LR ⊢
      clear hlen
      go_wp2_with fail
      refine LR.out.mono ?_
      rintro e w1 ⟨rfl, hb1⟩
      go_wp2_with fail
      go_ret
      exact ⟨rfl, HB.out.trans (hb1.mono HB.out.size)⟩

theorem key_size (s : ByteArray) (i : Nat) : (Se.key s i).size = 16 := Tr.dg_size _

set_option maxHeartbeats 1000000 in
theorem keys_any (s : ByteArray) (h : Nat) (w : World) (hs : s.size ≤ 1000000000) (hh : h ≤ 9) :
    Calls Tryd.prog 30 #[.string s, .int .i64 (h : Int)] w (Gives (Se.keys s h) w) := by
  have h9 : 2 ^ h ≤ 512 := Nat.pow_le_pow_right (n := 2) (by omega) hh
  have PW := Lib.hid (fun w' => power_any h w' (by omega))
  unfold Gives Se.keys
  generalize 2 ^ h = n at *
  go_enter Tryd.func30, Tryd.ntmps30
  go_wp2_with fail
  go_loopw [5, 6] (fun v j wr => ∃ k : Nat, k ≤ n ∧ j = .int .i64 k ∧ Below w.heap.size w wr ∧ OwnS wr w.heap.size v ((List.range k).map (Se.key s))) (fun _ j _ => n - (intOf j).toNat)
  case atStart => exact ⟨0, by omega, rfl, Below.refl _ _, OwnS.nil _ _⟩
  case round =>
    obtain ⟨k, hk, rfl, hb, hown⟩ := hrel
    by_cases hlt : k < n
    · have KV := Lib.hid (key_any s k wr hs (by omega))
      have MS := Lib.hid (map_range_snoc (Se.key s) k)
      have hlen : ((List.range k).map (Se.key s)).length ≤ 1000000 := by simp; omega
      have HB := Lib.hid hb
      have HO := Lib.hid hown
      clear hb hown
      generalize ((List.range k).map (Se.key s)) = l at *
      generalize Se.key s k = c at *
      go_wp2_with fail
      refine (PW.out wr).mono ?_
      rintro e w0 ⟨rfl, rfl⟩
      go_wp2_with fail
      refine KV.out.mono ?_
      rintro e w1 ⟨rfl, hb1⟩
      have ho1 := own_below (own_below HO.out hb1) ((Below.refl _ _).alloc (Nat.le_refl _) (.cells #[.string c] 9))
      have hb1' := HB.out.trans (hb1.mono HB.out.size)
      go_wp2_with (first
        | (at_builtin
           refine list_append1 rfl (.tmp 13) (.tmp 17) rfl w.heap.size _ l rfl ho1 _ rfl c 9 (heap_alloc_new w1 _) hlen (hb1'.alloc hb1'.size _).size ?_
           intro v2 w2 ho2 hb2)
        | fail)
      exact ⟨⟨k + 1, by omega, by go_num, (hb1'.alloc hb1'.size _).trans hb2, by rw [MS.out]; exact ho2⟩, by simp [intOf]; omega⟩
    · obtain rfl : k = n := by omega
      obtain ⟨A1, c1, rfl, _, _, _⟩ := hown.form
      have HB := Lib.hid hb
      have HO := Lib.hid hown
      clear hb hown
      have hlen : ((List.range k).map (Se.key s)).length = k := by simp
      rw [hlen] at HO ⊢
      clear hlen
      go_wp2_with fail
      refine (PW.out wr).mono ?_
      rintro e w0 ⟨rfl, rfl⟩
      go_wp2_with fail
      go_ret
      exact ⟨_, rfl, HO.out, HB.out⟩
end Go.Proofs.YtdlmbpoihnifiaaDoor

namespace Go.Proofs.YtdlmbpoihnifiaaDoor
open Go.RowKit
set_option maxRecDepth 100000

def OwnI (w : World) (B : Nat) (v : Value) (l : List Nat) : Prop := w.ownsRow B 3 1 v l.length (l.map fun n : Nat => Value.int .i64 (n : Int))

theorem ownI_below {w w' : World} {B : Nat} {v : Value} {l : List Nat} (h : OwnI w B v l) (hb : Below w.heap.size w w') : OwnI w' B v l := by
  unfold OwnI at h ⊢
  refine h.kept (row := none) ⟨hb.os, hb.tape, hb.output, hb.size, fun i hi _ => hb.block i hi⟩ ?_
  cases h : v.ownBlock with
  | none => exact .inl rfl
  | some g => exact .inr (by simp)

theorem OwnI.nil (w : World) (B : Nat) : OwnI w B (.slice none 0 0) [] := World.ownsRow_nil w B _ _

theorem OwnI.lt {w : World} {B : Nat} {v : Value} {l : List Nat} (h : OwnI w B v l) : ∀ k, v.ownBlock = some k → B ≤ k ∧ k < w.heap.size := by
  intro k hk
  rcases h.2 with ⟨rfl, _⟩ | ⟨g, cap, cur, rfl, h2, h3, _⟩
  · simp [Value.ownBlock] at hk
  · simp [Value.ownBlock] at hk
    subst hk
    exact ⟨h2, (Array.getElem?_eq_some_iff.1 h3).1⟩

/-- The slice of numbers: its cells. -/
def Ints (w : World) (B : Nat) (A : Option Addr) (l : List Nat) : Prop :=
  ∀ k, k < l.length → ∃ ad, A = some ad ∧ ad.block < B ∧ w.cell? (ad.add k) = some (.int .i64 ((l.getD k 0 : Nat) : Int))

theorem Ints.bt {w w' : World} {A : Option Addr} {l : List Nat} (h : Ints w w.heap.size A l) (hb : Below w.heap.size w w') : Ints w' w'.heap.size A l := fun k hk => by
  obtain ⟨ad, rfl, hlt, hc⟩ := h k hk
  exact ⟨ad, rfl, Nat.lt_of_lt_of_le hlt hb.size, (hb.cell (p := ad.add k) (by rw [add_block]; exact hlt)).trans hc⟩

theorem OwnI.form {w : World} {B : Nat} {v : Value} {l : List Nat} (h : OwnI w B v l) : ∃ A c, v = .slice A l.length c ∧ Ints w w.heap.size A l ∧ l.length ≤ c ∧ c ≤ maxLen := by
  have h0 : w.ownsRow B 3 1 v l.length (l.map fun n : Nat => Value.int .i64 (n : Int)) := h
  rcases h.2 with ⟨rfl, hn⟩ | ⟨g, cap, cur, rfl, h2, h3, h4, h5, _⟩
  · obtain rfl : l = [] := List.eq_nil_of_length_eq_zero hn
    exact ⟨none, 0, rfl, fun k hk => absurd hk (by simp), by simp, by simp [maxLen]⟩
  · refine ⟨_, _, rfl, fun k hk => ⟨_, rfl, (Array.getElem?_eq_some_iff.1 h3).1, ?_⟩, h4, h5⟩
    refine h0.cells (g := g) rfl k _ ?_
    rw [List.getElem?_map, List.getElem?_eq_getElem hk, List.getD_eq_getElem?_getD, List.getElem?_eq_getElem hk]
    rfl

theorem infoInt : (Tryd.prog.info? 3).map (fun i => (i.zero, i.size, i.bytes)) = some (some (.int .i64 0), 1, 8) := by kernel_rfl

theorem all_one_ints (l : List Nat) : ∀ u ∈ l.map (fun n : Nat => Value.int .i64 (n : Int)), u.oneCell' = true := by
  intro u hu
  obtain ⟨x, _, rfl⟩ := List.mem_map.1 hu
  rfl

/-- 'append(v, m..)', the numbers m.. in a block that is known whole, in a plain region. -/
theorem list_appendI {ops : Array Oper} {rest : List Oper} {o : Oper} {a : Act} {w : World} {Q : Exit → Act → World → Prop} (hgd : o.guard = none) (s x : Operand)
    (ho : o.op = .call { callee := .builtin .append, args := #[s, x], argTypes := #[54, 54] }) (B : Nat) (v : Value) (l : List Nat) (hs : a.eval s = v) (hown : OwnI w B v l) (b : Nat) (news : List Nat) (hx : a.eval x = .slice (some ⟨b, 0, none⟩) news.length news.length)
    (T : TypeId) (hb : w.heap[b]? = some (.cells (news.map fun n : Nat => Value.int .i64 (n : Int)).toArray T (0, 0))) (hn : 0 < news.length) (hl : l.length + news.length ≤ 1000000) (hB : B ≤ w.heap.size)
    (h : ∀ v' w', OwnI w' B v' (l ++ news) → Below B w w' → wpList Tryd.prog ops Q rest (a.put o.dst v') w') : wpList Tryd.prog ops Q (o :: rest) a w := by
  obtain ⟨i0, hi, hz0, hz1, hz2⟩ := info_parts infoInt
  refine wpList_append_lies w hgd s x 54 ho B 3 i0 (.int .i64 0) 1 8 Tryd.underlying54 hi hz0 hz1 hz2 rfl (by decide) v l.length _ hs hown ⟨b, 0, none⟩ news.length news.length (news.map fun n : Nat => Value.int .i64 (n : Int)) hx (by simp) (fun j u hu => World.news_of_block hb j u (by simpa using hu)) (all_one_ints news) hn (by unfold maxLen; omega) (by omega) hB w.heap.size rfl ?_
  intro g cap w' hown' hg _ _
  refine h _ w' ?_ ?_
  · unfold OwnI
    rw [List.length_append, List.map_append]
    exact hown'
  · exact (Below.refl _ _).grown hg hB (fun k hk => (OwnI.lt hown k hk).1)

theorem rest_snoc (l : List Nat) (k : Nat) (h : k < l.length) : ((l.take (k + 1)).map fun d => 15 - d).sum = ((l.take k).map fun d => 15 - d).sum + (15 - l.getD k 0) := by
  rw [take_snoc l 0 k h, List.map_append, List.sum_append]
  simp

def GivesI (l : List Nat) (w : World) (e : Ending) (w' : World) : Prop := ∃ v, e = .returned v ∧ OwnI w' w.heap.size v l ∧ Below w.heap.size w w'
end Go.Proofs.YtdlmbpoihnifiaaDoor

namespace Go.Proofs.YtdlmbpoihnifiaaDoor
open Go.RowKit
set_option maxRecDepth 100000
set_option linter.unusedSimpArgs false
set_option linter.unusedVariables false

theorem digit_hv (c : UInt8) (hc : Dg.isDig c = true) (w : World) :
    Calls Tryd.prog 66 #[.int .u8 (c.toNat : Int)] w fun e w' => e = .returned (.int .i64 ((Se.hv c : Nat) : Int)) ∧ w = w' := by
  have hdef : (48 ≤ c.toNat ∧ c.toNat ≤ 57) ∨ (97 ≤ c.toNat ∧ c.toNat ≤ 102) := by
    unfold Dg.isDig at hc
    simp only [Bool.or_eq_true, Bool.and_eq_true, decide_eq_true_eq, UInt8.le_iff_toNat_le] at hc
    exact hc
  have HV : Hid (((Se.hv c : Nat) : Int) = if c.toNat ≤ 57 then (c.toNat : Int) - 48 else (c.toNat : Int) - 87) := by
    refine Lib.hid ?_
    unfold Se.hv
    split <;> omega
  have hlt := c.toNat_lt
  generalize c.toNat = n at *
  generalize ((Se.hv c : Nat) : Int) = r at *
  clear hc
  rcases hdef with ⟨h1, h2⟩ | ⟨h1, h2⟩
  · have h3 : IntKind.u8.wrap ((n : Int) - 48) = (n : Int) - 48 := by rw [IntKind.wrap_u8]; omega
    go_enter Tryd.func66, Tryd.ntmps66
    go_wp2
    go_ret
    refine ⟨?_, rfl⟩
    rw [HV.out, if_pos h2]
    exact ret_int (by omega)
  · have h3 : IntKind.u8.wrap ((n : Int) - 97) = (n : Int) - 97 := by rw [IntKind.wrap_u8]; omega
    have h4 : ¬ n ≤ 57 := by omega
    have h5 : 48 ≤ n := by omega
    go_enter Tryd.func66, Tryd.ntmps66
    go_wp2
    go_ret
    refine ⟨?_, rfl⟩
    rw [HV.out, if_neg h4]
    exact ret_int (by omega)

/-- 'append(v, d)' for one number in a block of one, in a plain region. -/
theorem list_appendI1 {ops : Array Oper} {rest : List Oper} {o : Oper} {a : Act} {w : World} {Q : Exit → Act → World → Prop} (hgd : o.guard = none) (s x : Operand)
    (ho : o.op = .call { callee := .builtin .append, args := #[s, x], argTypes := #[54, 54] }) (B : Nat) (v : Value) (l : List Nat) (hs : a.eval s = v) (hown : OwnI w B v l) (b : Nat) (hx : a.eval x = .slice (some ⟨b, 0, none⟩) 1 1)
    (d : Nat) (T : TypeId) (hb : w.heap[b]? = some (.cells #[.int .i64 (d : Int)] T (0, 0))) (hl : l.length + 1 ≤ 1000000) (hB : B ≤ w.heap.size)
    (h : ∀ v' w', OwnI w' B v' (l ++ [d]) → Below B w w' → wpList Tryd.prog ops Q rest (a.put o.dst v') w') : wpList Tryd.prog ops Q (o :: rest) a w :=
  list_appendI hgd s x ho B v l hs hown b [d] hx T hb (by simp) hl hB h

set_option maxHeartbeats 1000000 in
theorem rDigits_any (m : ByteArray) (w : World) (hm : m.size ≤ 140737488355328) :
    Calls Tryd.prog 34 #[.string m] w (GivesI (Se.ds m) w) := by
  have HS := Lib.hid (rsum_any m w hm)
  have hlen := Dg.sum_length m.data.toList
  have hall : ((Dg.sum m.data.toList).all Dg.isDig) = true := Dg.low_all (Dg.state m.data.toList) 16
  have hds : Se.ds m = (Dg.sum m.data.toList).map Se.hv ++ [(((Dg.sum m.data.toList).map Se.hv).map fun d => 15 - d).sum / 16, (((Dg.sum m.data.toList).map Se.hv).map fun d => 15 - d).sum % 16] := rfl
  have hrl : ∀ k, ((((Dg.sum m.data.toList).map Se.hv).take k).map fun d => 15 - d).sum ≤ 240 := fun k => by
    have := Se.sum_le ((((Dg.sum m.data.toList).map Se.hv).take k).map fun d => 15 - d) 15 (fun d hd => by obtain ⟨x, _, rfl⟩ := List.mem_map.1 hd; omega)
    rw [List.length_map, List.length_take, List.length_map, hlen] at this
    omega
  unfold GivesI
  rw [hds]
  clear hds
  obtain ⟨sb, hsb⟩ : ∃ sb : ByteArray, Dg.sum m.data.toList = sb.data.toList := ⟨⟨(Dg.sum m.data.toList).toArray⟩, by simp⟩
  rw [hsb] at hlen hall hrl HS ⊢
  have hsz : sb.size = 16 := by simpa using hlen
  have HS2 := Lib.hid (by have := HS.out; simpa only [Array.toArray_toList] using this)
  clear hlen hsb HS
  obtain ⟨hx, hhx⟩ : ∃ hx, hx = sb.data.toList.map Se.hv := ⟨_, rfl⟩
  rw [← hhx] at hrl ⊢
  have hxl : hx.length = 16 := by rw [hhx]; simpa using hsz
  have HX := Lib.hid hhx
  have HXL := Lib.hid hxl
  have HA := Lib.hid hall
  have HR := Lib.hid hrl
  clear hhx hxl hall hrl
  go_enter Tryd.func34, Tryd.ntmps34
  go_wp2_with fail
  refine HS2.out.mono ?_
  rintro e w1 ⟨rfl, rfl⟩
  go_wp2_with fail
  go_loopw [4, 5, 6, 7] (fun v cs i _ wr => ∃ k c : Nat, k ≤ 16 ∧ i = .int .i64 (k : Int) ∧ cs = .int .i64 (c : Int) ∧ Hid (c = ((hx.take k).map fun d => 15 - d).sum) ∧ c ≤ 240 ∧ Below w.heap.size w wr ∧ OwnI wr w.heap.size v (hx.take k)) (fun _ _ i _ _ => 16 - (intOf i).toNat)
  case atStart => exact ⟨0, 0, by omega, rfl, rfl, Lib.hid rfl, by omega, Below.refl _ _, OwnI.nil _ _⟩
  case round =>
    obtain ⟨k, c, hk, rfl, rfl, HC, hc, hb, hown⟩ := hrel
    by_cases hlt : k < 16
    · have hd : Dg.isDig sb[k] = true := List.all_eq_true.1 HA.out _ (by
        have : sb[k] = sb.data.toList[k]'(by simpa using (show k < sb.size by omega)) := rfl
        rw [this]
        exact List.getElem_mem _)
      have hget : hx.getD k 0 = Se.hv sb[k] := by
        rw [HX.out, List.getD_eq_getElem?_getD, List.getElem?_map, List.getElem?_eq_getElem (by simpa using (show k < sb.size by omega))]
        rfl
      have hv15 := Se.hv_lt hd
      have HI := Lib.hid (fun w' => digit_hv sb[k] hd w')
      have HT := Lib.hid (show hx.take (k + 1) = hx.take k ++ [Se.hv sb[k]] by rw [take_snoc hx 0 k (by rw [HXL.out]; exact hlt), hget])
      have HS' := Lib.hid (show ((hx.take (k + 1)).map fun d => 15 - d).sum = ((hx.take k).map fun d => 15 - d).sum + (15 - Se.hv sb[k]) by rw [rest_snoc hx k (by rw [HXL.out]; exact hlt), hget])
      have HRk := HR.out (k + 1)
      rw [HS'.out, ← HC.out] at HRk
      have hlen : (hx.take k).length + 1 ≤ 1000000 := by rw [List.length_take]; omega
      have HB := Lib.hid hb
      have ho1 := ownI_below hown ((Below.refl _ _).alloc (Nat.le_refl _) (.cells #[.int .i64 ((Se.hv sb[k] : Nat) : Int)] 3))
      clear hget hd hb hown
      go_wp2_with (first
        | (go_at_call 66; refine (HI.out _).mono ?_; rintro e w1 ⟨rfl, rfl⟩)
        | (at_builtin
           refine list_appendI1 rfl (.tmp 20) (.tmp 22) rfl w.heap.size _ (hx.take k) rfl ho1 _ rfl (Se.hv sb[k]) 3 (heap_alloc_new _ _) hlen (HB.out.alloc HB.out.size _).size ?_
           intro v2 w2 ho2 hb2)
        | fail)
      exact ⟨⟨k + 1, c + (15 - Se.hv sb[k]), by omega, by go_num, by go_num, Lib.hid (by rw [HS'.out, HC.out]), by omega, (HB.out.alloc HB.out.size _).trans hb2, by rw [HT.out]; exact ho2⟩, by simp [intOf]; omega⟩
    · obtain rfl : k = 16 := by omega
      have HT : Hid (hx.take 16 = hx) := Lib.hid (List.take_of_length_le (by rw [HXL.out]; omega))
      have HC' : Hid (c = (hx.map fun d => 15 - d).sum) := Lib.hid (by have := HC.out; rwa [HT.out] at this)
      rw [HT.out] at hown
      have hlen : hx.length + [c / 16, c % 16].length ≤ 1000000 := by rw [HXL.out]; simp
      have e1 : (c : Int) / 16 = ((c / 16 : Nat) : Int) := by omega
      have e2 : (c : Int) % 16 = ((c % 16 : Nat) : Int) := by omega
      have HB := Lib.hid hb
      have ho1 := ownI_below hown ((Below.refl _ _).alloc (Nat.le_refl _) (.cells #[.int .i64 ((c : Int) / 16), .int .i64 ((c : Int) % 16)] 3))
      have HE := Lib.hid (And.intro e1 e2)
      clear hb hown e1 e2
      go_wp2_with (first
        | (at_builtin
           refine list_appendI rfl (.tmp 28) (.tmp 33) rfl w.heap.size _ hx rfl ho1 _ [c / 16, c % 16] rfl 3 (by rw [heap_alloc_new, HE.out.1, HE.out.2]; rfl) (by simp) hlen (HB.out.alloc HB.out.size _).size ?_
           intro v2 w2 ho2 hb2)
        | fail)
      go_ret
      exact ⟨_, rfl, by rw [← HC'.out]; exact ho2, (HB.out.alloc HB.out.size _).trans hb2⟩
end Go.Proofs.YtdlmbpoihnifiaaDoor
