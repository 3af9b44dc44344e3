/- The program's isHeight, isNoDigest, start, and slices.ContainsFunc at isNoDigest (layer 3). Lists of steps (a text and a number), which the program's calls make themselves (layer 3). -/
import Derived.Test.YtdlmbpoihnifiaaDoorSeMade
import Derived.Test.YtdlmbpoihnifiaaDoorTrF
import Derived.Test.YtdlmbpoihnifiaaDoorDgD
import Derived.Test.YtdlmbpoihnifiaaDoorDgU
import Derived.WalkKit
import Derived.Below
import Derived.LoopTactic
import Derived.Outline
import Derived.Lib.Hide
import Derived.Test.YtdlmbpoihnifiaaDoorTrO
import Derived.Deep.AppendLies
import Derived.OwnWalk
set_option linter.unusedSimpArgs false
set_option linter.unusedVariables false
namespace Go.Proofs.YtdlmbpoihnifiaaDoor
open Go.RowKit
set_option maxRecDepth 100000

theorem isHeight_any (h : Int) (w : World) :
    Calls Tryd.prog 26 #[.int .i64 h] w fun e w' => e = .returned (.bool (decide (0 ≤ h ∧ h ≤ 8))) ∧ w = w' := by
  by_cases h0 : 0 ≤ h
  · by_cases h8 : h ≤ 8
    · rw [decide_eq_true ⟨h0, h8⟩]
      go_enter Tryd.func26, Tryd.ntmps26
      go_wp2
      go_ret
      exact ⟨rfl, rfl⟩
    · rw [decide_eq_false (fun h => h8 h.2)]
      go_enter Tryd.func26, Tryd.ntmps26
      go_wp2
      go_ret
      exact ⟨rfl, rfl⟩
  · rw [decide_eq_false (fun h => h0 h.1)]
    go_enter Tryd.func26, Tryd.ntmps26
    go_wp2
    go_ret
    exact ⟨rfl, rfl⟩
theorem isHeight_yes (h : Nat) (w : World) (hh : h ≤ 8) :
    Calls Tryd.prog 26 #[.int .i64 (h : Int)] w fun e w' => e = .returned (.bool true) ∧ w = w' := by
  have := isHeight_any h w
  rwa [decide_eq_true (show (0 : Int) ≤ (h : Int) ∧ (h : Int) ≤ 8 by omega)] at this
theorem isHeight_no (h : Int) (w : World) (hh : h < 0 ∨ 8 < h) :
    Calls Tryd.prog 26 #[.int .i64 h] w fun e w' => e = .returned (.bool false) ∧ w = w' := by
  have := isHeight_any h w
  rwa [decide_eq_false (show ¬ ((0 : Int) ≤ h ∧ h ≤ 8) by omega)] at this

theorem isNoDigest_any (s : ByteArray) (b : Bool) (hb : Dg.isDigest s.data.toList = b) (w : World) :
    Calls Tryd.prog 39 #[.string s] w fun e w' => e = .returned (.bool (!b)) ∧ w = w' := by
  have hi := is_any s w
  rw [hb] at hi
  have HI := Lib.hid hi
  clear hi
  go_enter Tryd.func39, Tryd.ntmps39
  go_wp2_with fail
  refine HI.out.mono ?_
  rintro e w1 ⟨rfl, rfl⟩
  go_wp2
  go_ret
  exact ⟨rfl, rfl⟩

set_option maxHeartbeats 1000000 in
theorem indexFunc_any (A : Option Addr) (c : Nat) (ss : List ByteArray) (w : World) (hs : Strs w w.heap.size A ss) (hn : ss.length ≤ maxLen) :
    Calls Tryd.prog 68 #[.slice A ss.length c, .func (.func 39) #[] #[]] w fun e w' => ∃ r : Int, e = .returned (.int .i64 r) ∧ (0 ≤ r ↔ Tr.digs ss = false) ∧ w = w' := by
  unfold maxLen at hn
  go_enter Tryd.func68, Tryd.ntmps68
  go_wp2
  go_loop [8] (fun i => ∃ k : Nat, k ≤ ss.length ∧ i = .int .i64 k ∧ Tr.digs (ss.take k) = true) (fun i => ss.length - (intOf i).toNat)
  case atStart => exact ⟨0, by omega, rfl, rfl⟩
  case round =>
    obtain ⟨k, hk, rfl, hall⟩ := hrel
    have HA := Lib.hid hall
    clear hall
    by_cases hlt : k < ss.length
    · obtain ⟨ad, rfl, _, hc⟩ := hs k hlt
      have ht := Lib.hid (take_snoc ss ByteArray.empty k hlt)
      have hm : ss.getD k ByteArray.empty ∈ ss := by
        rw [List.getD_eq_getElem?_getD, List.getElem?_eq_getElem hlt]
        exact List.getElem_mem _
      have HM := Lib.hid hm
      clear hm hs
      generalize ss.getD k ByteArray.empty = x at *
      by_cases hx : Dg.isDigest x.data.toList = true
      · have HX := Lib.hid hx
        have HI := Lib.hid (isNoDigest_any x true hx w)
        clear hx
        go_wp2_with (go_at_call 39; refine HI.out.mono ?_; rintro e w1 ⟨rfl, rfl⟩)
        refine ⟨⟨k + 1, by omega, by go_num, ?_⟩, by simp [intOf]; omega⟩
        have := HA.out
        unfold Tr.digs at this ⊢
        rw [ht.out, List.all_append, this]
        simpa using HX.out
      · have HX := Lib.hid (Bool.eq_false_iff.2 hx)
        have HI := Lib.hid (isNoDigest_any x false HX.out w)
        clear hx
        go_wp2_with (go_at_call 39; refine HI.out.mono ?_; rintro e w1 ⟨rfl, rfl⟩)
        go_ret
        refine ⟨_, rfl, ?_, rfl⟩
        have : Tr.digs ss = false := by
          unfold Tr.digs
          exact List.all_eq_false.2 ⟨x, HM.out, by simpa using HX.out⟩
        exact ⟨fun _ => this, fun _ => by omega⟩
    · obtain rfl : k = ss.length := by omega
      have hf : Tr.digs ss = true := by
        have h := HA.out
        rwa [List.take_length] at h
      have HF := Lib.hid hf
      clear hf
      go_wp2_with fail
      go_ret
      exact ⟨_, rfl, by rw [HF.out]; decide, rfl⟩

theorem containsFunc_any (A : Option Addr) (c n : Nat) (ss : List ByteArray) (w : World) (hl : ss.length = n) (hs : Strs w w.heap.size A ss) (hn : n ≤ maxLen) (b : Bool) (hb : Tr.digs ss = b) :
    Calls Tryd.prog 38 #[.slice A n c, .func (.func 39) #[] #[]] w fun e w' => e = .returned (.bool (!b)) ∧ w = w' := by
  subst hl
  have HI := Lib.hid (indexFunc_any A c ss w hs hn)
  clear hs
  rw [hb] at HI
  clear hb
  generalize ss.length = n at *
  unfold maxLen at hn
  go_enter Tryd.func38, Tryd.ntmps38
  go_wp2_with fail
  refine HI.out.mono ?_
  rintro e w1 ⟨r, rfl, hr, rfl⟩
  cases b with
  | true =>
    have h0 : r < 0 := by
      have : ¬ (0 ≤ r) := fun h => by simpa using hr.1 h
      omega
    clear hr
    go_wp2
    go_ret
    exact ⟨by simp [h0], rfl⟩
  | false =>
    have h0 : 0 ≤ r := hr.2 rfl
    clear hr
    go_wp2
    go_ret
    exact ⟨by simp [h0], rfl⟩

/-- The program's List at a literal list. -/
theorem plist_lit (w : World) (ss : List ByteArray) (hz : ∀ s ∈ ss, s.size ≤ 1000000000) (hl : ss.length ≤ 3) (hp : Pow w.heap.size w) :
    Calls Tryd.prog 51 #[.slice (some ⟨w.heap.size, 0, none⟩) ss.length ss.length] (w.alloc (.cells (ss.map Value.string).toArray 9)) fun e w' => e = .returned (.string (Tr.dg ss)) ∧ Below w.heap.size w w' := by
  have hb : Below w.heap.size w (w.alloc (.cells (ss.map Value.string).toArray 9)) := (Below.refl _ _).alloc (Nat.le_refl _) _
  refine (list_any _ ss.length ss _ (strs_new w ss _) (by unfold maxLen; omega) (joined_bound 1000000000 ss hz (Nat.le_refl _) hl) (hp.bt hb)).mono ?_
  rintro e w1 ⟨rfl, hb1⟩
  exact ⟨rfl, Bt hb hb1⟩

theorem dec_len (u : Nat) (h : u ≤ 1000000) : (Se.dec u).size ≤ 1000000000 := by
  rw [Se.dec, bsize]
  have := dec_length u (by omega)
  omega

theorem pstart_any (s : ByteArray) (i k : Nat) (w : World) (hs : s.size ≤ 1000000000) (hi : i ≤ 1000000) (hk : k ≤ 1000000) (hp : Pow w.heap.size w) :
    Calls Tryd.prog 65 #[.string s, .int .i64 (i : Int), .int .i64 (k : Int)] w fun e w' => e = .returned (.string (Se.start s i k)) ∧ Below w.heap.size w w' := by
  have hz : ∀ x ∈ [s, Se.dec i, Se.dec k], x.size ≤ 1000000000 := by
    intro x hx
    simp at hx
    rcases hx with rfl | rfl | rfl
    · exact hs
    · exact dec_len i hi
    · exact dec_len k hk
  have HL := Lib.hid (fun (w' : World) (hp' : Pow w'.heap.size w') => plist_lit w' [s, Se.dec i, Se.dec k] hz (by simp) hp')
  have D1 := Lib.hid (fun (w' : World) (hp' : Pow w'.heap.size w') => itoa_any i w'.heap.size w' (by omega) hp')
  have D2 := Lib.hid (fun (w' : World) (hp' : Pow w'.heap.size w') => itoa_any k w'.heap.size w' (by omega) hp')
  go_enter Tryd.func65, Tryd.ntmps65
  go_wp2_with fail
  refine (D1.out w hp).mono ?_
  rintro e w1 ⟨rfl, hb1⟩
  go_wp2_with fail
  refine (D2.out w1 (hp.bt hb1)).mono ?_
  rintro e w2 ⟨rfl, hb2⟩
  have hb2' := Bt hb1 hb2
  go_wp2_with fail
  refine (HL.out w2 (hp.bt hb2')).mono ?_
  rintro e w3 ⟨rfl, hb3⟩
  go_wp2
  go_ret
  exact ⟨rfl, Bt hb2' hb3⟩

theorem pchain_val (x : ByteArray) (n : Nat) (hn : n ≤ 1000) (w : World) (hs : x.size ≤ 140737488355328) :
    Calls Tryd.prog 64 #[.string x, .int .i64 (n : Int)] w fun e w' => e = .returned (.string (Se.ch x n)) ∧ Below w.heap.size w w' := by
  have := chain_any x n w (by unfold maxLen; omega)
  rw [show (min (n : Int) 1000).toNat = n by omega] at this
  rwa [Se.ch_chain]
end Go.Proofs.YtdlmbpoihnifiaaDoor

namespace Go.Proofs.YtdlmbpoihnifiaaDoor
open Go.RowKit
set_option maxRecDepth 100000

abbrev Step := ByteArray × Nat
def stepCells (l : List Step) : List Value := l.flatMap fun p => [.string p.1, .int .i64 (p.2 : Int)]
theorem stepCells_length : ∀ l : List Step, (stepCells l).length = l.length * 2
  | [] => rfl
  | p :: r => by
    have := stepCells_length r
    unfold stepCells at this ⊢
    simp only [List.flatMap_cons, List.length_append, List.length_cons, List.length_nil, this]
    omega
theorem stepCells_append (l m : List Step) : stepCells (l ++ m) = stepCells l ++ stepCells m := by unfold stepCells; exact List.flatMap_append
theorem stepCells_get : ∀ (l : List Step) (k : Nat) (h : k < l.length), (stepCells l)[k * 2]? = some (.string (l[k]).1) ∧ (stepCells l)[k * 2 + 1]? = some (.int .i64 ((l[k]).2 : Int))
  | [], k, h => absurd h (by simp)
  | p :: r, 0, h => ⟨rfl, rfl⟩
  | p :: r, k + 1, h => by
    have := stepCells_get r k (by simpa using h)
    have e : stepCells (p :: r) = .string p.1 :: .int .i64 (p.2 : Int) :: stepCells r := rfl
    rw [e, show (k + 1) * 2 = k * 2 + 2 by omega, show k * 2 + 2 + 1 = k * 2 + 1 + 2 by omega]
    simpa using this
theorem stepCells_one (l : List Step) : ∀ u ∈ stepCells l, u.oneCell' = true := by
  intro u hu
  obtain ⟨p, _, h⟩ := List.mem_flatMap.1 hu
  simp at h
  rcases h with rfl | rfl <;> rfl

def OwnT (w : World) (B : Nat) (v : Value) (l : List Step) : Prop := w.ownsRow B 79 2 v l.length (stepCells l)
theorem ownT_below {w w' : World} {B : Nat} {v : Value} {l : List Step} (h : OwnT w B v l) (hb : Below w.heap.size w w') : OwnT w' B v l := by
  unfold OwnT at h ⊢
  refine h.kept (row := none) ⟨hb.os, hb.tape, hb.output, hb.size, fun i hi _ => hb.block i hi⟩ ?_
  cases h : v.ownBlock with
  | none => exact .inl rfl
  | some g => exact .inr (by simp)
theorem OwnT.nil (w : World) (B : Nat) : OwnT w B (.slice none 0 0) [] := World.ownsRow_nil w B _ _
theorem OwnT.lt {w : World} {B : Nat} {v : Value} {l : List Step} (h : OwnT w B v l) : ∀ k, v.ownBlock = some k → B ≤ k ∧ k < w.heap.size := by
  intro k hk
  rcases h.2 with ⟨rfl, _⟩ | ⟨g, cap, cur, rfl, h2, h3, _⟩
  · simp [Value.ownBlock] at hk
  · simp [Value.ownBlock] at hk
    subst hk
    exact ⟨h2, (Array.getElem?_eq_some_iff.1 h3).1⟩

/-- The slice of steps: its cells. -/
def Steps (w : World) (B : Nat) (A : Option Addr) (l : List Step) : Prop :=
  ∀ k, k < l.length → ∃ g, A = some ⟨g, 0, none⟩ ∧ g < B ∧ w.cell? ⟨g, k * 2, none⟩ = some (.string (l.getD k (⟨#[]⟩, 0)).1) ∧ w.cell? ⟨g, k * 2 + 1, none⟩ = some (.int .i64 ((l.getD k (⟨#[]⟩, 0)).2 : Int))
theorem Steps.bt {w w' : World} {A : Option Addr} {l : List Step} (h : Steps w w.heap.size A l) (hb : Below w.heap.size w w') : Steps w' w'.heap.size A l := fun k hk => by
  obtain ⟨g, rfl, hlt, h1, h2⟩ := h k hk
  exact ⟨g, rfl, Nat.lt_of_lt_of_le hlt hb.size, (hb.cell (p := ⟨g, k * 2, none⟩) hlt).trans h1, (hb.cell (p := ⟨g, k * 2 + 1, none⟩) hlt).trans h2⟩
theorem OwnT.form {w : World} {B : Nat} {v : Value} {l : List Step} (h : OwnT w B v l) : ∃ A c, v = .slice A l.length c ∧ Steps w w.heap.size A l ∧ l.length ≤ c ∧ c ≤ maxLen := by
  have h0 : w.ownsRow B 79 2 v l.length (stepCells l) := h
  rcases h.2 with ⟨rfl, hn⟩ | ⟨g, cap, cur, rfl, h2, h3, h4, h5, _⟩
  · obtain rfl : l = [] := List.eq_nil_of_length_eq_zero hn
    exact ⟨none, 0, rfl, fun k hk => absurd hk (by simp), by simp, by simp [maxLen]⟩
  · refine ⟨_, _, rfl, fun k hk => ⟨g, rfl, (Array.getElem?_eq_some_iff.1 h3).1, ?_, ?_⟩, h4, h5⟩
    · have := h0.cells (g := g) rfl (k * 2) _ (stepCells_get l k hk).1
      rw [List.getD_eq_getElem?_getD, List.getElem?_eq_getElem hk, Option.getD_some]
      rw [← this]
      congr 1
      unfold Addr.add
      split <;> simp_all
    · have := h0.cells (g := g) rfl (k * 2 + 1) _ (stepCells_get l k hk).2
      rw [List.getD_eq_getElem?_getD, List.getElem?_eq_getElem hk, Option.getD_some]
      rw [← this]
      congr 1
      unfold Addr.add
      split <;> simp_all

theorem infoStep : (Tryd.prog.info? 79).map (fun i => (i.zero, i.size, i.bytes)) = some (some (.agg #[.string ⟨#[]⟩, .int .i64 0]), 2, 24) := by kernel_rfl

/-- 'append(v, step)', the new step in a block that is known whole, in a plain region. -/
theorem list_appendT {ops : Array Oper} {rest : List Oper} {o : Oper} {a : Act} {w : World} {Q : Exit → Act → World → Prop} (hgd : o.guard = none) (s x : Operand)
    (ho : o.op = .call { callee := .builtin .append, args := #[s, x], argTypes := #[77, 77] }) (B : Nat) (v : Value) (l : List Step) (hs : a.eval s = v) (hown : OwnT w B v l) (b : Nat) (hx : a.eval x = .slice (some ⟨b, 0, none⟩) 1 1)
    (p : Step) (T : TypeId) (hb : w.heap[b]? = some (.cells #[.string p.1, .int .i64 (p.2 : Int)] T (0, 0))) (hl : l.length ≤ 1000000) (hB : B ≤ w.heap.size)
    (h : ∀ v' w', OwnT w' B v' (l ++ [p]) → Below B w w' → wpList Tryd.prog ops Q rest (a.put o.dst v') w') : wpList Tryd.prog ops Q (o :: rest) a w := by
  obtain ⟨i0, hi, hz0, hz1, hz2⟩ := info_parts infoStep
  refine wpList_append_lies w hgd s x 77 ho B 79 i0 (.agg #[.string ⟨#[]⟩, .int .i64 0]) 2 24 Tryd.underlying77 hi hz0 hz1 hz2 rfl (by decide) v l.length (stepCells l) hs hown ⟨b, 0, none⟩ 1 1 (stepCells [p]) hx rfl (World.news_of_block hb) (stepCells_one [p]) (by decide) (by unfold maxLen; omega) (by omega) hB w.heap.size rfl ?_
  intro g cap w' hown' hg _ _
  refine h _ w' ?_ ?_
  · unfold OwnT
    rw [List.length_append, stepCells_append]
    exact hown'
  · exact (Below.refl _ _).grown hg hB (fun k hk => (OwnT.lt hown k hk).1)

def keyL (l : List Step) : ByteArray := Tr.dg (l.map fun p => Se.ch p.1 p.2)

theorem pfins_room (l : List ByteArray) (hz : ∀ s ∈ l, s.size ≤ 1000000) (hl : l.length ≤ 1000) : (joined l).length ≤ 140737488355328 := by
  have h1 := joined_le_room l fun s hs => by have := hz s hs; omega
  have h2 := room_le 1000000 l hz
  have h3 : l.length * (1000000 + 21) ≤ 1000 * (1000000 + 21) := Nat.mul_le_mul_right _ hl
  omega

theorem ch_le (x : ByteArray) (n M : Nat) (h : x.size ≤ M) (hM : 16 ≤ M) : (Se.ch x n).size ≤ M := by
  cases n with
  | zero => exact h
  | succ n => rw [Se.ch_size]; exact hM

theorem map_range_snoc' {α : Type} (f : Nat → α) (k : Nat) : (List.range (k + 1)).map f = (List.range k).map f ++ [f k] := by
  rw [List.range_succ, List.map_append]
  rfl

set_option maxHeartbeats 1000000 in
theorem keyOf_any (A : Option Addr) (c : Nat) (l : List Step) (w : World) (hs : Steps w w.heap.size A l) (hn : l.length ≤ 1000) (hz : ∀ p ∈ l, p.1.size ≤ 1000000 ∧ p.2 ≤ 1000) (hp : Pow w.heap.size w) :
    Calls Tryd.prog 72 #[.slice A l.length c] w fun e w' => e = .returned (.string (keyL l)) ∧ Below w.heap.size w w' := by
  go_enter Tryd.func72, Tryd.ntmps72
  go_wp2
  go_loopw [3, 8] (fun v j wr => ∃ k : Nat, k ≤ l.length ∧ j = .int .i64 k ∧ Below w.heap.size w wr ∧ OwnS wr w.heap.size v ((l.take k).map fun p => Se.ch p.1 p.2)) (fun _ j _ => l.length - (intOf j).toNat)
  case atStart => exact ⟨0, by omega, rfl, Below.refl _ _, OwnS.nil _ _⟩
  case round =>
    obtain ⟨k, hk, rfl, hb, hown⟩ := hrel
    by_cases hlt : k < l.length
    · obtain ⟨g, rfl, hg, c1, c2⟩ := (hs.bt hb) k hlt
      have hm : l.getD k (⟨#[]⟩, 0) ∈ l := by
        rw [List.getD_eq_getElem?_getD, List.getElem?_eq_getElem hlt]
        exact List.getElem_mem _
      have hzz := hz _ hm
      have MS := Lib.hid (show (l.take (k + 1)).map (fun p => Se.ch p.1 p.2) = (l.take k).map (fun p => Se.ch p.1 p.2) ++ [Se.ch (l.getD k (⟨#[]⟩, 0)).1 (l.getD k (⟨#[]⟩, 0)).2] by rw [take_snoc l (⟨#[]⟩, 0) k hlt, List.map_append]; rfl)
      have hlen : ((l.take k).map fun p => Se.ch p.1 p.2).length ≤ 1000000 := by simp; omega
      have HB := Lib.hid hb
      have HO := Lib.hid hown
      clear hb hown hs hm hz
      generalize l.getD k (⟨#[]⟩, 0) = p at *
      obtain ⟨x, d⟩ := p
      obtain ⟨hx, hd⟩ := hzz
      simp only at hx hd c1 c2 MS
      have CV := Lib.hid (fun w' => pchain_val x d hd w' (by omega))
      generalize ((l.take k).map fun p => Se.ch p.1 p.2) = m at *
      generalize l.length = n at *
      have hbA := HB.out.alloc HB.out.size (.cells #[.string x, .int .i64 (d : Int)] 79)
      go_wp2_with fail
      refine (CV.out _).mono ?_
      rintro e w1 ⟨rfl, hb1⟩
      have hbB : Below wr.heap.size wr w1 := Bt ((Below.refl _ _).alloc (Nat.le_refl _) _) hb1
      have hb1' := HB.out.trans (hbB.mono HB.out.size)
      have ho1 := own_below (own_below HO.out hbB) ((Below.refl _ _).alloc (Nat.le_refl _) (.cells #[.string (Se.ch x d)] 9))
      go_wp2_with (first
        | (at_builtin
           refine list_append1 rfl (.tmp 12) (.tmp 18) rfl w.heap.size _ m rfl ho1 _ rfl (Se.ch x d) 9 (heap_alloc_new w1 _) hlen (hb1'.alloc hb1'.size _).size ?_
           intro v2 w2 ho2 hb2)
        | fail)
      exact ⟨⟨k + 1, by omega, by go_num, (hb1'.alloc hb1'.size _).trans hb2, by rw [MS.out]; exact ho2⟩, by simp [intOf]; omega⟩
    · obtain rfl : k = l.length := by omega
      rw [List.take_length] at hown
      obtain ⟨A1, c1, rfl, hs1, hc1, hm1⟩ := hown.form
      have hz' : ∀ x ∈ l.map (fun p => Se.ch p.1 p.2), x.size ≤ 1000000 := by
        intro x hx
        obtain ⟨p, hpm, rfl⟩ := List.mem_map.1 hx
        exact ch_le _ _ _ (hz p hpm).1 (by omega)
      have hr := pfins_room _ hz' (by simp; omega)
      have LR := Lib.hid (list_any A1 c1 _ wr hs1 (by simp [maxLen]; omega) hr (hp.bt hb))
      have HB := Lib.hid hb
      clear hs1 hb hown hz hr
      have hlen : (l.map fun p => Se.ch p.1 p.2).length = l.length := by simp
      rw [hlen] at hc1 LR ⊢
      clear hlen
      go_wp2_with fail
      refine LR.out.mono ?_
      rintro e w1 ⟨rfl, hb1⟩
      go_wp2_with fail
      go_ret
      exact ⟨rfl, HB.out.trans (hb1.mono HB.out.size)⟩

set_option maxHeartbeats 1000000 in
theorem oneTimeKey_any (s : ByteArray) (i : Nat) (w : World) (hs : s.size ≤ 1000000000) (hi : i ≤ 1000000) (hp : Pow w.heap.size w) :
    Calls Tryd.prog 56 #[.string s, .int .i64 (i : Int)] w fun e w' => e = .returned (.string (Se.key s i)) ∧ Below w.heap.size w w' := by
  go_enter Tryd.func56, Tryd.ntmps56
  go_wp2
  go_loopw [5, 6, 7] (fun v _ j wr => ∃ k : Nat, k ≤ 18 ∧ j = .int .i64 k ∧ Below w.heap.size w wr ∧ OwnT wr w.heap.size v ((List.range k).map fun k => (Se.start s i k, 15))) (fun _ _ j _ => 18 - (intOf j).toNat)
  case atStart => exact ⟨0, by omega, rfl, Below.refl _ _, OwnT.nil _ _⟩
  case round =>
    obtain ⟨k, hk, rfl, hb, hown⟩ := hrel
    by_cases hlt : k < 18
    · have ST := Lib.hid (pstart_any s i k wr hs hi (by omega) (hp.bt hb))
      have MS := Lib.hid (map_range_snoc' (fun k => (Se.start s i k, 15)) k)
      have hlen : ((List.range k).map fun k => (Se.start s i k, 15)).length ≤ 1000000 := by simp; omega
      have HB := Lib.hid hb
      have HO := Lib.hid hown
      clear hb hown
      generalize Se.start s i k = st at *
      generalize ((List.range k).map fun k => (Se.start s i k, 15)) = l at *
      go_wp2_with fail
      refine ST.out.mono ?_
      rintro e w1 ⟨rfl, hb1⟩
      have ho1 := ownT_below (ownT_below HO.out hb1) ((Below.refl _ _).alloc (Nat.le_refl _) (.cells #[.string st, .int .i64 15] 79))
      have hb1' := HB.out.trans (hb1.mono HB.out.size)
      go_wp2_with (first
        | (at_builtin
           refine list_appendT rfl (.tmp 10) (.tmp 16) rfl w.heap.size _ l rfl ho1 _ rfl (st, 15) 79 (heap_alloc_new w1 _) hlen (hb1'.alloc hb1'.size _).size ?_
           intro v2 w2 ho2 hb2)
        | fail)
      exact ⟨⟨k + 1, by omega, by go_num, (hb1'.alloc hb1'.size _).trans hb2, by rw [MS.out]; exact ho2⟩, by simp [intOf]; omega⟩
    · obtain rfl : k = 18 := by omega
      obtain ⟨A1, c1, rfl, hs1, hc1, hm1⟩ := hown.form
      have hz : ∀ p ∈ (List.range 18).map (fun k => (Se.start s i k, 15)), p.1.size ≤ 1000000 ∧ p.2 ≤ 1000 := by
        intro x hx
        obtain ⟨k, _, rfl⟩ := List.mem_map.1 hx
        exact ⟨by simp only [Se.start]; rw [Tr.dg_size]; omega, by simp⟩
      have KO := Lib.hid (keyOf_any A1 c1 _ wr hs1 (by simp) hz (hp.bt hb))
      have HK := Lib.hid (show keyL ((List.range 18).map fun k => (Se.start s i k, 15)) = Se.key s i by unfold keyL Se.key Se.fins; rw [List.map_map]; rfl)
      have HB := Lib.hid hb
      clear hs1 hb hown hz
      have hlen : ((List.range 18).map fun k => (Se.start s i k, 15)).length = 18 := by simp
      rw [hlen] at hc1 KO ⊢
      clear hlen
      go_wp2_with fail
      refine KO.out.mono ?_
      rintro e w1 ⟨rfl, hb1⟩
      go_wp2_with fail
      go_ret
      exact ⟨by rw [← HK.out]; rfl, HB.out.trans (hb1.mono HB.out.size)⟩

theorem wrap_pow (h : Nat) (hh : h ≤ 30) : wrap64 ((2 : Int) ^ h) = ((2 ^ h : Nat) : Int) := by
  have h1 : 2 ^ h ≤ 1073741824 := Nat.pow_le_pow_right (n := 2) (by omega) hh
  have e : ((2 : Int) ^ h) = ((2 ^ h : Nat) : Int) := by norm_cast
  rw [e]
  generalize 2 ^ h = n at *
  unfold wrap64
  omega

set_option maxHeartbeats 1000000 in
theorem oneTimeKeys_any (s : ByteArray) (h : Nat) (w : World) (hs : s.size ≤ 1000000000) (hh : h ≤ 9) (hp : Pow w.heap.size w) :
    Calls Tryd.prog 28 #[.string s, .int .i64 (h : Int)] w (Gives (Se.keys s h) w) := by
  have h9 : 2 ^ h ≤ 512 := Nat.pow_le_pow_right (n := 2) (by omega) hh
  have hsh := wrap_pow h (by omega)
  unfold Gives Se.keys
  generalize 2 ^ h = n at *
  go_enter Tryd.func28, Tryd.ntmps28
  go_wp2_with fail
  rw [hsh]
  go_loopw [5, 6, 9] (fun v _ j wr => ∃ k : Nat, k ≤ n ∧ j = .int .i64 k ∧ Below w.heap.size w wr ∧ OwnS wr w.heap.size v ((List.range k).map (Se.key s))) (fun _ _ j _ => n - (intOf j).toNat)
  case atStart => exact ⟨0, by omega, rfl, Below.refl _ _, OwnS.nil _ _⟩
  case round =>
    obtain ⟨k, hk, rfl, hb, hown⟩ := hrel
    by_cases hlt : k < n
    · have KV := Lib.hid (oneTimeKey_any s k wr hs (by omega) (hp.bt hb))
      have MS := Lib.hid (map_range_snoc' (Se.key s) k)
      have hlen : ((List.range k).map (Se.key s)).length ≤ 1000000 := by simp; omega
      have HB := Lib.hid hb
      have HO := Lib.hid hown
      clear hb hown hsh
      generalize ((List.range k).map (Se.key s)) = l at *
      generalize Se.key s k = c at *
      go_wp2_with fail
      refine KV.out.mono ?_
      rintro e w1 ⟨rfl, hb1⟩
      have ho1 := own_below (own_below HO.out hb1) ((Below.refl _ _).alloc (Nat.le_refl _) (.cells #[.string c] 9))
      have hb1' := HB.out.trans (hb1.mono HB.out.size)
      go_wp2_with (first
        | (at_builtin
           refine list_append1 rfl (.tmp 12) (.tmp 16) rfl w.heap.size _ l rfl ho1 _ rfl c 9 (heap_alloc_new w1 _) hlen (hb1'.alloc hb1'.size _).size ?_
           intro v2 w2 ho2 hb2)
        | fail)
      exact ⟨⟨k + 1, by omega, by go_num, (hb1'.alloc hb1'.size _).trans hb2, by rw [MS.out]; exact ho2⟩, by simp [intOf]; omega⟩
    · obtain rfl : k = n := by omega
      obtain ⟨A1, c1, rfl, _, _, _⟩ := hown.form
      have HB := Lib.hid hb
      have HO := Lib.hid hown
      clear hb hown hsh
      have hlen : ((List.range k).map (Se.key s)).length = k := by simp
      rw [hlen] at HO ⊢
      clear hlen
      go_wp2_with fail
      go_ret
      exact ⟨_, rfl, HO.out, HB.out⟩
end Go.Proofs.YtdlmbpoihnifiaaDoor
