/- The reference's chained and node (layer 3). Several lists of strings that one call makes: an append to one of them leaves the others (layer 3). -/
import Derived.Test.YtdlmbpoihnifiaaDoorSeC
import Derived.Test.YtdlmbpoihnifiaaDoorTrP
import Derived.Test.YtdlmbpoihnifiaaDoorTrS
namespace Go.Proofs.YtdlmbpoihnifiaaDoor
open Go.RowKit
set_option maxRecDepth 100000
set_option linter.unusedSimpArgs false
set_option linter.unusedVariables false

theorem rsum_ch (x : ByteArray) (w : World) (hx : x.size ≤ 140737488355328) :
    Calls Tryd.prog 25 #[.string x] w fun e w' => e = .returned (.string (Tr.sm x)) ∧ w = w' := rsum_any x w hx

theorem ch_size_le (x : ByteArray) (n : Nat) (h : x.size ≤ 140737488355328) : (Se.ch x n).size ≤ 140737488355328 := by
  cases n with
  | zero => exact h
  | succ n => rw [Se.ch_size]; omega

set_option maxHeartbeats 1000000 in
theorem chained_any (x : ByteArray) (n : Nat) (w : World) (hx : x.size ≤ 140737488355328) (hn : n ≤ 1000) :
    Calls Tryd.prog 48 #[.string x, .int .i64 (n : Int)] w (Gives (Se.chained x n) w) := by
  unfold Gives Se.chained
  have hb0 := (Below.refl w.heap.size w).alloc (Nat.le_refl _) (.cells #[.string x] 9)
  have O0 := own_one w w.heap.size x (Nat.le_refl _)
  have e0 : (List.range (0 + 1)).map (Se.ch x) = [x] := rfl
  rw [← e0] at O0
  have O1 := Lib.hid O0
  have c0 : (0 : Nat) ≤ n := by omega
  go_enter Tryd.func48, Tryd.ntmps48
  go_wp2_with fail
  go_loopw [0, 5, 6] (fun t v i wr => ∃ k : Nat, k ≤ n ∧ i = .int .i64 (k : Int) ∧ Below w.heap.size w wr ∧ OwnS wr w.heap.size v ((List.range (k + 1)).map (Se.ch x)) ∧ t = .string (Se.ch x k)) (fun _ _ i _ => n - (intOf i).toNat)
  case atStart => exact ⟨0, c0, rfl, hb0, O1.out, rfl⟩
  case round =>
    obtain ⟨k, hk, rfl, hb, hown, rfl⟩ := hrel
    by_cases hlt : k < n
    · have SU := Lib.hid (fun w' => rsum_ch (Se.ch x k) w' (ch_size_le x k hx))
      have e1 : Tr.sm (Se.ch x k) = Se.ch x (k + 1) := rfl
      rw [e1] at SU
      have MS := Lib.hid (show (List.range (k + 1 + 1)).map (Se.ch x) = (List.range (k + 1)).map (Se.ch x) ++ [Se.ch x (k + 1)] by rw [List.range_succ, List.map_append]; rfl)
      have hlen : ((List.range (k + 1)).map (Se.ch x)).length ≤ 1000000 := by simp; omega
      have HB := Lib.hid hb
      have ho1 := own_below hown ((Below.refl _ _).alloc (Nat.le_refl _) (.cells #[.string (Se.ch x (k + 1))] 9))
      have HE : Hid (∀ y, y = Se.ch x (k + 1) → Value.string y = .string (Se.ch x (k + 1))) := Lib.hid (fun y h => by rw [h])
      clear hb hown e1 O0 O1 e0
      generalize (List.range (k + 1)).map (Se.ch x) = l at *
      generalize hy : Se.ch x (k + 1) = y at *
      have HY := Lib.hid hy
      clear hy
      go_wp2_with (first
        | (go_at_call 25; refine (SU.out _).mono ?_; rintro e w1 ⟨rfl, rfl⟩)
        | (at_builtin
           refine list_append1 rfl (.tmp 16) (.tmp 18) rfl w.heap.size _ l rfl ho1 _ rfl y 9 (heap_alloc_new _ _) hlen (HB.out.alloc HB.out.size _).size ?_
           intro v2 w2 ho2 hb2)
        | fail)
      exact ⟨⟨k + 1, by omega, by go_num, (HB.out.alloc HB.out.size _).trans hb2, by rw [MS.out]; exact ho2, by rw [HY.out]⟩, by simp [intOf]; omega⟩
    · obtain rfl : k = n := by omega
      obtain ⟨A1, c1, rfl, _, _, _⟩ := hown.form
      have HB := Lib.hid hb
      have HO := Lib.hid hown
      clear hb hown O0 O1 e0
      have hlen : ((List.range (k + 1)).map (Se.ch x)).length = k + 1 := by simp
      rw [hlen] at HO ⊢
      clear hlen
      go_wp2_with fail
      go_ret
      exact ⟨_, rfl, HO.out, HB.out⟩

theorem rnode3_any (x y : ByteArray) (w : World) (hx : x.size ≤ 1000000000) (hy : y.size ≤ 1000000000) :
    Calls Tryd.prog 49 #[.string x, .string y] w fun e w' => e = .returned (.string (Tr.jn [⟨#[110, 111, 100, 101]⟩, x, y])) ∧ Below w.heap.size w w' := by
  have HL := Lib.hid (rjoined_lit w [⟨#[110, 111, 100, 101]⟩, x, y] (sz3 (szl [_, _, _, _] (by decide)) hx hy) (by simp))
  go_enter Tryd.func49, Tryd.ntmps49
  go_wp2_with fail
  refine HL.out.mono ?_
  rintro e w1 ⟨rfl, hb1⟩
  go_wp2
  go_ret
  exact ⟨rfl, hb1⟩
end Go.Proofs.YtdlmbpoihnifiaaDoor

namespace Go.Proofs.YtdlmbpoihnifiaaDoor
open Go.RowKit
set_option maxRecDepth 100000
set_option linter.unusedSimpArgs false
set_option linter.unusedVariables false

/-- What an append to a list of one's own leaves. -/
structure AppD (w w' : World) (B : Nat) (v v' : Value) (l : List ByteArray) : Prop where
  own : OwnS w' B v' l
  below : Below B w w'
  grown : w.grownBy w' v.ownBlock
  blk : v'.ownBlock = v.ownBlock ∨ v'.ownBlock = some w.heap.size

theorem run_append4 (w : World) (B : Nat) (v : Value) (l : List ByteArray) (hown : OwnS w B v l) (v2 : Value) (B2 : Nat) (news : List ByteArray) (h2 : OwnS w B2 v2 news) (hl : l.length + news.length ≤ 1000000) (hB : B ≤ w.heap.size) (ty : TypeId) :
    ∃ v' w', (Builtin.append_ #[22, 22] ty #[v, v2]).run Tryd.prog w = .ok v' w' ∧ AppD w w' B v v' (l ++ news) := by
  obtain ⟨i0, hi, hz0, hz1, hz2⟩ := info_parts infoStr
  rcases h2.parts with ⟨rfl, rfl⟩ | ⟨g, c, rfl, hc⟩
  · exact ⟨v, w, run_append_owned_none (P := Tryd.prog) (w := w) B 22 ty 9 i0 1 Tryd.underlying22 hi v l.length (l.map Value.string) hown, by rw [List.append_nil]; exact hown, Below.refl _ _, World.grownBy.refl w _, .inl rfl⟩
  · obtain ⟨v', w', hrun, hown', hg, _, hblk⟩ := run_append_own_at (P := Tryd.prog) w B 22 ty 9 i0 (.string ⟨#[]⟩) 1 16 Tryd.underlying22 hi hz0 hz1 hz2 rfl (by decide) v l.length (l.map Value.string) hown ⟨g, 0, none⟩ news.length c (news.map Value.string) (by simp) hc (all_one_strs news) (by unfold maxLen; omega) (by omega) hB
    refine ⟨v', w', hrun, ?_, (Below.refl _ _).grown hg hB (fun k hk => (OwnS.lt hown k hk).1), hg, hblk⟩
    unfold OwnS
    rw [List.length_append, List.map_append]
    exact hown'

theorem wp_append4 {o : Oper} {a : Act} {w : World} {K : Act → World → Prop} {Q : Exit → Act → World → Prop} (s x : Operand)
    (ho : o.op = .call { callee := .builtin .append, args := #[s, x], argTypes := #[22, 22] }) (B : Nat) (v : Value) (l : List ByteArray) (hs : a.eval s = v) (hown : OwnS w B v l)
    (v2 : Value) (B2 : Nat) (news : List ByteArray) (hx : a.eval x = v2) (h2 : OwnS w B2 v2 news) (hl : l.length + news.length ≤ 1000000) (hB : B ≤ w.heap.size)
    (h : ∀ v' w', AppD w w' B v v' (l ++ news) → K (a.put o.dst v') w') : o.wp Tryd.prog a w K Q := by
  obtain ⟨v', w', hrun, h3⟩ := run_append4 w B v l hown v2 B2 news h2 hl hB o.type
  unfold Oper.wp
  simp [execOp, ho, resolve, invoke, builtin, hs, hx, hrun, Result.andThen]
  exact h v' w' h3

theorem step_append4 {ops : Array Oper} {o : Oper} {a : Act} {w : World} {K : Act → World → Prop} {Q : Exit → Act → World → Prop} {E : Prop} (hw : Region.wanted o (yielded ops a.tmps) = true) (s x : Operand)
    (ho : o.op = .call { callee := .builtin .append, args := #[s, x], argTypes := #[22, 22] }) (B : Nat) (v : Value) (l : List ByteArray) (hs : a.eval s = v) (hown : OwnS w B v l)
    (v2 : Value) (B2 : Nat) (news : List ByteArray) (hx : a.eval x = v2) (h2 : OwnS w B2 v2 news) (hl : l.length + news.length ≤ 1000000) (hB : B ≤ w.heap.size)
    (h : ∀ v' w', AppD w w' B v v' (l ++ news) → K (a.put o.dst v') w') :
    if Region.wanted o (yielded ops a.tmps) = true then Oper.wp Tryd.prog o a w K Q else E := by
  rw [if_pos hw]
  exact wp_append4 s x ho B v l hs hown v2 B2 news hx h2 hl hB h

theorem list_append4 {ops : Array Oper} {rest : List Oper} {o : Oper} {a : Act} {w : World} {Q : Exit → Act → World → Prop} (hgd : o.guard = none) (s x : Operand)
    (ho : o.op = .call { callee := .builtin .append, args := #[s, x], argTypes := #[22, 22] }) (B : Nat) (v : Value) (l : List ByteArray) (hs : a.eval s = v) (hown : OwnS w B v l)
    (v2 : Value) (B2 : Nat) (news : List ByteArray) (hx : a.eval x = v2) (h2 : OwnS w B2 v2 news) (hl : l.length + news.length ≤ 1000000) (hB : B ≤ w.heap.size)
    (h : ∀ v' w', AppD w w' B v v' (l ++ news) → wpList Tryd.prog ops Q rest (a.put o.dst v') w') : wpList Tryd.prog ops Q (o :: rest) a w :=
  wpList_step fun K hK => by
    rw [if_pos (by simp [Region.wanted, hgd])]
    exact wp_append4 s x ho B v l hs hown v2 B2 news hx h2 hl hB fun v' w' h3 => hK _ _ (h v' w' h3)

/-- A new slice of given strings. -/
theorem own_lit (w : World) (B : Nat) (ss : List ByteArray) (hB : B ≤ w.heap.size) (hl : ss.length ≤ 1000000) : OwnS (w.alloc (.cells (ss.map Value.string).toArray 9)) B (.slice (some ⟨w.heap.size, 0, none⟩) ss.length ss.length) ss :=
  ⟨by simp, .inr ⟨w.heap.size, ss.length, (ss.map Value.string).toArray, rfl, hB, heap_alloc_new w _, Nat.le_refl _, by unfold maxLen; omega, by simp, by simp [List.take_of_length_le]⟩⟩

/-- No row in common. -/
def Dj (u v : Value) : Prop := ∀ g, u.ownBlock = some g → v.ownBlock = some g → False
theorem Dj.symm {u v : Value} (h : Dj u v) : Dj v u := fun g h1 h2 => h g h2 h1
theorem Dj.nil (v : Value) : Dj (.slice none 0 0) v := fun g h _ => by simp [Value.ownBlock] at h
theorem own_apart {w w' : World} {B B' : Nat} {a a' u : Value} {la lu : List ByteArray} (h : AppD w w' B a a' la) (hu : OwnS w B' u lu) (hd : Dj u a) : OwnS w' B' u lu := by
  have h' : w.ownsRow B' 9 1 u lu.length (lu.map Value.string) := hu
  refine h'.kept h.grown ?_
  cases e : u.ownBlock with
  | none => exact .inl rfl
  | some g => exact .inr (fun e2 => hd g e e2.symm)
theorem dj_app {w w' : World} {B B' : Nat} {a a' u : Value} {la lu : List ByteArray} (h : AppD w w' B a a' la) (hu : OwnS w B' u lu) (hd : Dj u a) : Dj u a' := fun g h1 h2 => by
  rcases h.blk with e | e
  · exact hd g h1 (e ▸ h2)
  · rw [e] at h2
    have := (OwnS.lt hu g h1).2
    simp at h2
    omega
theorem dj_fresh {w : World} {B' : Nat} {a u : Value} {lu : List ByteArray} (hu : OwnS w B' u lu) (ha : ∀ g, a.ownBlock = some g → g < B') : Dj u a := fun g h1 h2 => by
  have := (OwnS.lt hu g h1).1
  have := ha g h2
  omega

theorem cell_grown2 {w w' : World} {a : Addr} {v : Value} {row : Option Nat} (h : w.cell? a = some v) (hg : w.grownBy w' row) (hne : some a.block ≠ row) : w'.cell? a = some v :=
  (World.cell?_of_block (hg.block a.block (block_lt_of_cell h) hne)).trans h

theorem OwnS.at {w : World} {B : Nat} {v : Value} {l : List ByteArray} (h : OwnS w B v l) (k : Nat) (hk : k < l.length) : ∃ g c, v = .slice (some ⟨g, 0, none⟩) l.length c ∧ w.cell? ⟨g, k, none⟩ = some (.string (l.getD k ByteArray.empty)) := by
  rcases h.parts with ⟨rfl, rfl⟩ | ⟨g, c, rfl, hc⟩
  · simp at hk
  · refine ⟨g, c, rfl, ?_⟩
    have := hc k (.string (l.getD k ByteArray.empty)) (by rw [List.getElem?_map, List.getElem?_eq_getElem hk, List.getD_eq_getElem?_getD, List.getElem?_eq_getElem hk]; rfl)
    rw [← this]
    congr 1
    unfold Addr.add
    split <;> simp_all

structure Own3 (w : World) (B : Nat) (a : Value) (la : List ByteArray) (b : Value) (lb : List ByteArray) (c : Value) (lc : List ByteArray) : Prop where
  oa : OwnS w B a la
  ob : OwnS w B b lb
  oc : OwnS w B c lc
  ab : Dj a b
  ac : Dj a c
  bc : Dj b c
section
variable {w w' : World} {B : Nat} {a a' b b' c c' : Value} {la la' lb lb' lc lc' : List ByteArray}
theorem Own3.below (h : Own3 w B a la b lb c lc) (hb : Below w.heap.size w w') : Own3 w' B a la b lb c lc :=
  ⟨own_below h.oa hb, own_below h.ob hb, own_below h.oc hb, h.ab, h.ac, h.bc⟩
theorem Own3.appA (h : Own3 w B a la b lb c lc) (p : AppD w w' B a a' la') : Own3 w' B a' la' b lb c lc :=
  ⟨p.own, own_apart p h.ob h.ab.symm, own_apart p h.oc h.ac.symm, (dj_app p h.ob h.ab.symm).symm, (dj_app p h.oc h.ac.symm).symm, h.bc⟩
theorem Own3.swap (h : Own3 w B a la b lb c lc) : Own3 w B b lb a la c lc := ⟨h.ob, h.oa, h.oc, h.ab.symm, h.bc, h.ac⟩
theorem Own3.swap' (h : Own3 w B a la b lb c lc) : Own3 w B a la c lc b lb := ⟨h.oa, h.oc, h.ob, h.ac, h.ab, h.bc.symm⟩
theorem Own3.appB (h : Own3 w B a la b lb c lc) (p : AppD w w' B b b' lb') : Own3 w' B a la b' lb' c lc := (h.swap.appA p).swap
theorem Own3.appC (h : Own3 w B a la b lb c lc) (p : AppD w w' B c c' lc') : Own3 w' B a la b lb c' lc' := (h.swap'.appB p).swap'
theorem Own3.newB (h : Own3 w B a la b lb c lc) : Own3 w B a la (.slice none 0 0) [] c lc := ⟨h.oa, OwnS.nil _ _, h.oc, (Dj.nil _).symm, h.ac, Dj.nil _⟩
end
theorem Own3.nil (w : World) (B : Nat) : Own3 w B (.slice none 0 0) [] (.slice none 0 0) [] (.slice none 0 0) [] := ⟨OwnS.nil _ _, OwnS.nil _ _, OwnS.nil _ _, Dj.nil _, Dj.nil _, Dj.nil _⟩
theorem OwnS.ltB {w : World} {B : Nat} {v : Value} {l : List ByteArray} (h : OwnS w B v l) : ∀ g, v.ownBlock = some g → g < w.heap.size := fun g hg => (OwnS.lt h g hg).2
theorem BtA {w w1 w2 : World} {B : Nat} {v v' : Value} {l : List ByteArray} (h : Below B w w1) (p : AppD w1 w2 B v v' l) : Below B w w2 := h.trans p.below
end Go.Proofs.YtdlmbpoihnifiaaDoor
