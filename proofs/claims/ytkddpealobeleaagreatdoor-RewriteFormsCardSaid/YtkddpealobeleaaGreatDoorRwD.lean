/- Layer 10: rules and drops that a table may have together. -/
import Derived.Test.YtkddpealobeleaaGreatDoorRwC
import Derived.Test.YtkddpealobeleaaGreatDoorNmO
import Derived.OwnWalk
import Derived.BigRegion
set_option linter.unusedSimpArgs false
set_option linter.unusedVariables false
namespace Go.Proofs.YtkddpealobeleaaGreatDoor
open Go.RowKit Go.Maps Go.ChangeMaps Go.Shelf
set_option maxRecDepth 100000
set_option maxHeartbeats 4000000
def Rw.Bx (W : World) (E : Nat) (cs : Array Value) (T : TypeId) : Prop := W.heap[E]? = some (.cells cs T (0, 0))
theorem Rw.Bx.lt {W : World} {E : Nat} {cs : Array Value} {T : TypeId} (h : Rw.Bx W E cs T) : E < W.heap.size := (Array.getElem?_eq_some_iff.1 h).1
theorem Rw.Bx.bt {W V : World} {E : Nat} {cs : Array Value} {T : TypeId} (h : Rw.Bx W E cs T) (hb : Below W.heap.size W V) : Rw.Bx V E cs T := (hb.block E h.lt).trans h
theorem Rw.Bx.below {W V : World} {E n : Nat} {cs : Array Value} {T : TypeId} (h : Rw.Bx W E cs T) (hb : Below n W V) (hn : E < n) : Rw.Bx V E cs T := (hb.block E hn).trans h
theorem Rw.Bx.c {W : World} {E : Nat} {cs : Array Value} {T : TypeId} (h : Rw.Bx W E cs T) (i : Nat) (v : Value) (hi : cs[i]? = some v) : W.cell? ⟨E, i, none⟩ = some v := by
  unfold Rw.Bx at h
  simp [World.cell?, h, hi]
theorem Rw.Bx.f {W : World} {E : Nat} {cs : Array Value} {T : TypeId} (h : Rw.Bx W E cs T) (i : Nat) : W.frozen? ⟨E, i, none⟩ = false := by
  unfold Rw.Bx at h
  simp [World.frozen?, h]
theorem Rw.addRl_any (b : Nat) (l : List Rw.Rl) (x : Rw.Rl) (w : World) (hT : Rw.TabRl w b l) (hl : Rw.AllRl l) (hx : x.Good) :
    Calls Tryz.prog 83 #[.map (some b), x.key] w fun e w' => e = .returned (.bool (!Rw.hasRl l x)) ∧ Rw.TabRl w' b (if Rw.hasRl l x = true then l else l ++ [x]) ∧ Below b w w' := by
  obtain ⟨k, f, t, c⟩ := x
  have hB := Nm.al w (.cells #[.int .i64 k, .string f, .string t, .int .i64 0] 52)
  have HT := Lib.hid (hT.bt hB hT.lt)
  have HB : Hid (Below b w (w.alloc (.cells #[.int .i64 k, .string f, .string t, .int .i64 0] 52))) := Lib.hid (hB.mono (Nat.le_of_lt hT.lt))
  have HL := Lib.hid hl
  have HX := Lib.hid hx
  clear hB hT hl hx
  unfold Rw.Rl.key
  cases hh : Rw.hasRl l ⟨k, f, t, c⟩ with
  | true =>
    have HH := Lib.hid hh
    clear hh
    go_enter Tryz.func83, Tryz.ntmps83
    go_wp2_with (refine Rw.wp_lookRl _ rfl (.tmp 5) (.tmp 6) rfl b l rfl HT.out HL.out ⟨k, f, t, c⟩ rfl HX.out ?_; rw [HH.out])
    go_ret
    exact ⟨rfl, HT.out, HB.out⟩
  | false =>
    have HH := Lib.hid hh
    clear hh
    go_enter Tryz.func83, Tryz.ntmps83
    go_wp2_with (first
      | (refine Rw.wp_lookRl _ rfl (.tmp 5) (.tmp 6) rfl b l rfl HT.out HL.out ⟨k, f, t, c⟩ rfl HX.out ?_; rw [HH.out])
      | (refine Rw.wp_storeRl _ rfl (.tmp 8) (.tmp 9) (.const (.bool true)) rfl b l rfl HT.out HL.out ⟨k, f, t, c⟩ rfl rfl HX.out HH.out ?_; intro w2 t2 b2 s2))
    go_ret
    exact ⟨rfl, t2, HB.out.trans b2⟩
theorem Rw.freeRl_any (x : Rw.Rl) (w : World) : Calls Tryz.prog 84 #[x.val] w fun e w' => e = .returned x.key ∧ Below w.heap.size w w' := by
  obtain ⟨k, f, t, c⟩ := x
  unfold Rw.Rl.val Rw.Rl.key
  go_enter Tryz.func84, Tryz.ntmps84
  go_wp2
  refine bodyPost_ret (v := .agg #[.int .i64 k, .string f, .string t, .int .i64 0]) (by simp [results, Tryz.f84, go_sem]) rfl ⟨rfl, Nm.Nb (Nm.al w _) (Nm.al _ _)⟩
theorem Rw.addDp_any (b : Nat) (l : List Rw.Dp) (x : Rw.Dp) (w : World) (hT : Rw.TabDp w b l) (hl : Rw.AllDp l) (hx : x.Good) :
    Calls Tryz.prog 85 #[.map (some b), x.key] w fun e w' => e = .returned (.bool (!Rw.hasDp l x)) ∧ Rw.TabDp w' b (if Rw.hasDp l x = true then l else l ++ [x]) ∧ Below b w w' := by
  obtain ⟨k, f, c⟩ := x
  have hB := Nm.al w (.cells #[.int .i64 k, .string f, .int .i64 0] 63)
  have HT := Lib.hid (hT.bt hB hT.lt)
  have HB : Hid (Below b w (w.alloc (.cells #[.int .i64 k, .string f, .int .i64 0] 63))) := Lib.hid (hB.mono (Nat.le_of_lt hT.lt))
  have HL := Lib.hid hl
  have HX := Lib.hid hx
  clear hB hT hl hx
  unfold Rw.Dp.key
  cases hh : Rw.hasDp l ⟨k, f, c⟩ with
  | true =>
    have HH := Lib.hid hh
    clear hh
    go_enter Tryz.func85, Tryz.ntmps85
    go_wp2_with (refine Rw.wp_lookDp _ rfl (.tmp 5) (.tmp 6) rfl b l rfl HT.out HL.out ⟨k, f, c⟩ rfl HX.out ?_; rw [HH.out])
    go_ret
    exact ⟨rfl, HT.out, HB.out⟩
  | false =>
    have HH := Lib.hid hh
    clear hh
    go_enter Tryz.func85, Tryz.ntmps85
    go_wp2_with (first
      | (refine Rw.wp_lookDp _ rfl (.tmp 5) (.tmp 6) rfl b l rfl HT.out HL.out ⟨k, f, c⟩ rfl HX.out ?_; rw [HH.out])
      | (refine Rw.wp_storeDp _ rfl (.tmp 8) (.tmp 9) (.const (.bool true)) rfl b l rfl HT.out HL.out ⟨k, f, c⟩ rfl rfl HX.out HH.out ?_; intro w2 t2 b2 s2))
    go_ret
    exact ⟨rfl, t2, HB.out.trans b2⟩
theorem Rw.freeDp_any (x : Rw.Dp) (w : World) : Calls Tryz.prog 86 #[x.val] w fun e w' => e = .returned x.key ∧ Below w.heap.size w w' := by
  obtain ⟨k, f, c⟩ := x
  unfold Rw.Dp.val Rw.Dp.key
  go_enter Tryz.func86, Tryz.ntmps86
  go_wp2
  refine bodyPost_ret (v := .agg #[.int .i64 k, .string f, .int .i64 0]) (by simp [results, Tryz.f86, go_sem]) rfl ⟨rfl, Nm.Nb (Nm.al w _) (Nm.al _ _)⟩
def Rw.okRl (x : Rw.Rl) : Bool := Rw.okF x.k x.frm.data.toList 3 && (Rw.okTo x.to.data.toList && Rw.okC x.cost)
/-- May a table have these together? -/
def Rw.oksRl (l : List Rw.Rl) : Bool := decide (∀ i, (h : i < l.length) → Rw.okRl l[i] = true ∧ Rw.hasRl (l.take i) l[i] = false)
def Rw.PreRl (l : List Rw.Rl) (k : Nat) : Prop := ∀ i, (h : i < l.length) → i < k → Rw.okRl l[i] = true ∧ Rw.hasRl (l.take i) l[i] = false
theorem Rw.PreRl.step {l : List Rw.Rl} {k : Nat} (h : Rw.PreRl l k) (hk : k < l.length) (h1 : Rw.okRl l[k] = true) (h2 : Rw.hasRl (l.take k) l[k] = false) : Rw.PreRl l (k + 1) := fun i hi hik => by
  rcases Nat.lt_or_ge i k with hlt | hge
  · exact h i hi hlt
  · obtain rfl : i = k := by omega
    exact ⟨h1, h2⟩
theorem Rw.PreRl.done {l : List Rw.Rl} {k : Nat} (h : Rw.PreRl l k) (hk : ¬ k < l.length) : Rw.oksRl l = true := decide_eq_true fun i hi => h i hi (by omega)
theorem Rw.badRl {l : List Rw.Rl} {k : Nat} (hk : k < l.length) (h : Rw.okRl l[k] = false ∨ Rw.hasRl (l.take k) l[k] = true) : Rw.oksRl l = false := decide_eq_false fun hc => by
  obtain ⟨h1, h2⟩ := hc k hk
  rcases h with h | h
  · rw [h1] at h; cases h
  · rw [h2] at h; cases h
theorem Rw.take_snocRl (l : List Rw.Rl) (k : Nat) (hk : k < l.length) : l.take (k + 1) = l.take k ++ [l[k]] := by rw [List.take_succ_eq_append_getElem hk]
theorem Rw.validRl_any (A : Option Addr) (c : Nat) (l : List Rw.Rl) (n : Nat) (hn : l.length = n) (w : World) (hl : Rw.Rls w w.heap.size A l) (hg : Rw.AllRl l) (hm : n ≤ maxLen) (hT : Nm.Tb w.heap.size w) :
    Calls Tryz.prog 47 #[.slice A n c] w fun e w' => e = .returned (.bool (Rw.oksRl l)) ∧ Below w.heap.size w w' := by
  unfold maxLen at hm
  have HL := Lib.hid hl
  have HG := Lib.hid hg
  have HN := Lib.hid hn
  have HTb := Lib.hid hT
  have hmm := @run_makeMap Tryz.prog
  have HB1 := Lib.hid (Nm.al w (.map #[] 0))
  have HT1 := Lib.hid (Rw.madeRl w)
  have HS1 : Hid (w.heap.size < (w.alloc (.map #[] 0)).heap.size) := Lib.hid (by simp)
  have HP1 : Hid (Rw.PreRl l 0) := Lib.hid (fun i hi h => by omega)
  clear hl hg hn hT
  go_enter Tryz.func47, Tryz.ntmps47
  go_wp2
  clear hmm
  go_loopw [9] (fun s9 wr => ∃ k : Nat, k ≤ n ∧ s9 = .int .i64 (k : Int) ∧ Hid (Below w.heap.size w wr) ∧ Hid (w.heap.size < wr.heap.size) ∧ Hid (Rw.TabRl wr w.heap.size (l.take k)) ∧ Hid (Rw.PreRl l k)) (fun s9 _ => n - (intOf s9).toNat)
  case atStart => exact ⟨0, Nat.zero_le _, rfl, HB1, HS1, HT1, HP1⟩
  case round =>
    clear HB1 HS1 HT1 HP1
    obtain ⟨k, hk, rfl, HB, HS, HT, HP⟩ := hrel
    by_cases hlt : k < n
    · have hkl : k < l.length := by rw [HN.out]; exact hlt
      have hlti : (k : Int) < (n : Int) := by omega
      have hk0 : (0 : Int) ≤ (k : Int) := by omega
      obtain ⟨ad, rfl, had, c0, c1, c2, c3⟩ := (HL.out.below HB.out (Nat.le_refl _)).at hkl
      have HGx : Hid ((l[k]).Good) := Lib.hid (HG.out _ (List.getElem_mem hkl))
      have HAG : Hid (Rw.AllRl (l.take k)) := Lib.hid (fun x hx => HG.out x (List.mem_of_mem_take hx))
      have HTS : Hid (l.take (k + 1) = l.take k ++ [l[k]]) := Lib.hid (Rw.take_snocRl l k hkl)
      have HST := Lib.hid (fun h1 h2 => HP.out.step hkl h1 h2)
      have HBD := Lib.hid (fun h => Rw.badRl (k := k) hkl h)
      obtain ⟨x, hx⟩ : ∃ x, l[k] = x := ⟨_, rfl⟩
      rw [hx] at HGx HTS HST HBD c0 c1 c2 c3
      clear hx hkl had
      have hwr := Nm.al wr (.cells #[.int .i64 x.k, .string x.frm, .string x.to, .int .i64 x.cost] 52)
      have BX : Hid (Rw.Bx (wr.alloc (.cells #[.int .i64 x.k, .string x.frm, .string x.to, .int .i64 x.cost] 52)) wr.heap.size #[.int .i64 x.k, .string x.frm, .string x.to, .int .i64 x.cost] 52) := Lib.hid (heap_alloc_new _ _)
      have hb : Below w.heap.size w (wr.alloc (.cells #[.int .i64 x.k, .string x.frm, .string x.to, .int .i64 x.cost] 52)) := HB.out.trans (hwr.mono (Nat.le_of_lt HS.out))
      have HTx := Lib.hid (HT.out.bt hwr HS.out)
      have HSx : Hid (w.heap.size < (wr.alloc (.cells #[.int .i64 x.k, .string x.frm, .string x.to, .int .i64 x.cost] 52)).heap.size) := Lib.hid (Nat.lt_of_lt_of_le HS.out hwr.size)
      have FO := Lib.hid (fun v (hv : Below w.heap.size w v) => Rw.folded_any x.k x.frm 3 v HGx.out.frm (HTb.out.bt hv))
      clear HT HP HS HB hwr
      go_wp2_with fail
      refine (FO.out _ hb).mono ?_
      rintro e v ⟨rfl, g⟩
      have hb' := Rw.Nb hb g
      have BX' := Lib.hid (BX.out.bt g)
      have HTx' := Lib.hid (HTx.out.bt g HSx.out)
      have HSx' : Hid (w.heap.size < v.heap.size) := Lib.hid (Nat.lt_of_lt_of_le HSx.out g.size)
      clear hb BX HTx HSx g FO c0 c1 c2 c3
      have hb := hb'
      have BX := BX'
      have HTx := HTx'
      have HSx := HSx'
      clear hb' BX' HTx' HSx'
      have x0 := BX.out.c 0 _ rfl
      have x1 := BX.out.c 1 _ rfl
      have x2 := BX.out.c 2 _ rfl
      have x3 := BX.out.c 3 _ rfl
      cases ht0 : Rw.okF x.k x.frm.data.toList 3 with
      | false =>
        have HF := Lib.hid (HBD.out (.inl (by unfold Rw.okRl; simp [ht0])))
        clear HBD HST
        go_wp2
        go_ret
        exact ⟨congrArg (fun z => Ending.returned (.bool z)) HF.out.symm, hb⟩
      | true =>
      go_wp2_with fail
      refine (Rw.to_any x.to v HGx.out.to).mono ?_
      rintro e v'  ⟨rfl, rfl⟩
      cases ht1 : Rw.okTo x.to.data.toList with
      | false =>
        have HF := Lib.hid (HBD.out (.inl (by unfold Rw.okRl; simp [ht0, ht1])))
        clear HBD HST
        go_wp2
        go_ret
        exact ⟨congrArg (fun z => Ending.returned (.bool z)) HF.out.symm, hb⟩
      | true =>
      go_wp2_with fail
      refine (Rw.cost_any x.cost v).mono ?_
      rintro e v'  ⟨rfl, rfl⟩
      cases ht2 : Rw.okC x.cost with
      | false =>
        have HF := Lib.hid (HBD.out (.inl (by unfold Rw.okRl; simp [ht0, ht1, ht2])))
        clear HBD HST
        go_wp2
        go_ret
        exact ⟨congrArg (fun z => Ending.returned (.bool z)) HF.out.symm, hb⟩
      | true =>
      have HOK : Rw.okRl x = true := by unfold Rw.okRl; simp [ht0, ht1, ht2]
      have HOK := HOK
      go_wp2_with fail
      refine (Rw.freeRl_any x v).mono ?_
      rintro e v2 ⟨rfl, g⟩
      have hb2 := Rw.Nb hb g
      have HT2 := Lib.hid (HTx.out.bt g HSx.out)
      have HS2 : Hid (w.heap.size < v2.heap.size) := Lib.hid (Nat.lt_of_lt_of_le HSx.out g.size)
      clear hb g HTx HSx BX x0 x1 x2 x3
      have AD := Lib.hid (Rw.addRl_any w.heap.size (l.take k) x v2 HT2.out HAG.out HGx.out)
      cases hh : Rw.hasRl (l.take k) x with
      | true =>
        rw [hh] at AD
        have HF := Lib.hid (HBD.out (.inr hh))
        clear hh HST HBD
        go_wp2_with fail
        refine AD.out.mono ?_
        rintro e v3 ⟨rfl, t3, g3⟩
        have hb := hb2.trans g3
        go_wp2
        go_ret
        exact ⟨congrArg (fun z => Ending.returned (.bool z)) HF.out.symm, hb⟩
      | false =>
        rw [hh] at AD
        have HPN := Lib.hid (HST.out HOK hh)
        clear hh HST HBD
        go_wp2_with fail
        refine AD.out.mono ?_
        rintro e v3 ⟨rfl, t3, g3⟩
        have HBN := Lib.hid (hb2.trans g3)
        have HSN : Hid (w.heap.size < v3.heap.size) := Lib.hid (Nat.lt_of_lt_of_le HS2.out g3.size)
        have HTN : Hid (Rw.TabRl v3 w.heap.size (l.take (k + 1))) := Lib.hid (by rw [HTS.out]; simpa using t3)
        clear t3 g3
        go_wp2
        exact ⟨⟨k + 1, by omega, by go_num, HBN, HSN, HTN, HPN⟩, by simp [intOf]; omega⟩
    · have HF : Hid (Rw.oksRl l = true) := Lib.hid (HP.out.done (by rw [HN.out]; exact hlt))
      have hlti : ¬ (k : Int) < (n : Int) := by omega
      go_wp2
      go_ret
      exact ⟨congrArg (fun z => Ending.returned (.bool z)) HF.out.symm, HB.out⟩
def Rw.okDp (m : Int) (x : Rw.Dp) : Bool := Rw.okF x.k x.word.data.toList m && Rw.okC x.cost
/-- May a table have these together? -/
def Rw.oksDp (m : Int) (l : List Rw.Dp) : Bool := decide (∀ i, (h : i < l.length) → Rw.okDp m l[i] = true ∧ Rw.hasDp (l.take i) l[i] = false)
def Rw.PreDp (m : Int) (l : List Rw.Dp) (k : Nat) : Prop := ∀ i, (h : i < l.length) → i < k → Rw.okDp m l[i] = true ∧ Rw.hasDp (l.take i) l[i] = false
theorem Rw.PreDp.step {m : Int} {l : List Rw.Dp} {k : Nat} (h : Rw.PreDp m l k) (hk : k < l.length) (h1 : Rw.okDp m l[k] = true) (h2 : Rw.hasDp (l.take k) l[k] = false) : Rw.PreDp m l (k + 1) := fun i hi hik => by
  rcases Nat.lt_or_ge i k with hlt | hge
  · exact h i hi hlt
  · obtain rfl : i = k := by omega
    exact ⟨h1, h2⟩
theorem Rw.PreDp.done {m : Int} {l : List Rw.Dp} {k : Nat} (h : Rw.PreDp m l k) (hk : ¬ k < l.length) : Rw.oksDp m l = true := decide_eq_true fun i hi => h i hi (by omega)
theorem Rw.badDp {m : Int} {l : List Rw.Dp} {k : Nat} (hk : k < l.length) (h : Rw.okDp m l[k] = false ∨ Rw.hasDp (l.take k) l[k] = true) : Rw.oksDp m l = false := decide_eq_false fun hc => by
  obtain ⟨h1, h2⟩ := hc k hk
  rcases h with h | h
  · rw [h1] at h; cases h
  · rw [h2] at h; cases h
theorem Rw.take_snocDp (l : List Rw.Dp) (k : Nat) (hk : k < l.length) : l.take (k + 1) = l.take k ++ [l[k]] := by rw [List.take_succ_eq_append_getElem hk]
theorem Rw.validDp_any (A : Option Addr) (c : Nat) (l : List Rw.Dp) (m : Int) (n : Nat) (hn : l.length = n) (w : World) (hl : Rw.Dps w w.heap.size A l) (hg : Rw.AllDp l) (hm : n ≤ maxLen) (hT : Nm.Tb w.heap.size w) :
    Calls Tryz.prog 48 #[.slice A n c, .int .i64 m] w fun e w' => e = .returned (.bool (Rw.oksDp m l)) ∧ Below w.heap.size w w' := by
  unfold maxLen at hm
  have HL := Lib.hid hl
  have HG := Lib.hid hg
  have HN := Lib.hid hn
  have HTb := Lib.hid hT
  have hmm := @run_makeMap Tryz.prog
  have HB1 := Lib.hid (Nm.al w (.map #[] 0))
  have HT1 := Lib.hid (Rw.madeDp w)
  have HS1 : Hid (w.heap.size < (w.alloc (.map #[] 0)).heap.size) := Lib.hid (by simp)
  have HP1 : Hid (Rw.PreDp m l 0) := Lib.hid (fun i hi h => by omega)
  clear hl hg hn hT
  go_enter Tryz.func48, Tryz.ntmps48
  go_wp2
  clear hmm
  go_loopw [11] (fun s9 wr => ∃ k : Nat, k ≤ n ∧ s9 = .int .i64 (k : Int) ∧ Hid (Below w.heap.size w wr) ∧ Hid (w.heap.size < wr.heap.size) ∧ Hid (Rw.TabDp wr w.heap.size (l.take k)) ∧ Hid (Rw.PreDp m l k)) (fun s9 _ => n - (intOf s9).toNat)
  case atStart => exact ⟨0, Nat.zero_le _, rfl, HB1, HS1, HT1, HP1⟩
  case round =>
    clear HB1 HS1 HT1 HP1
    obtain ⟨k, hk, rfl, HB, HS, HT, HP⟩ := hrel
    by_cases hlt : k < n
    · have hkl : k < l.length := by rw [HN.out]; exact hlt
      have hlti : (k : Int) < (n : Int) := by omega
      have hk0 : (0 : Int) ≤ (k : Int) := by omega
      obtain ⟨ad, rfl, had, c0, c1, c2⟩ := (HL.out.below HB.out (Nat.le_refl _)).at hkl
      have HGx : Hid ((l[k]).Good) := Lib.hid (HG.out _ (List.getElem_mem hkl))
      have HAG : Hid (Rw.AllDp (l.take k)) := Lib.hid (fun x hx => HG.out x (List.mem_of_mem_take hx))
      have HTS : Hid (l.take (k + 1) = l.take k ++ [l[k]]) := Lib.hid (Rw.take_snocDp l k hkl)
      have HST := Lib.hid (fun h1 h2 => HP.out.step hkl h1 h2)
      have HBD := Lib.hid (fun h => Rw.badDp (m := m) (k := k) hkl h)
      obtain ⟨x, hx⟩ : ∃ x, l[k] = x := ⟨_, rfl⟩
      rw [hx] at HGx HTS HST HBD c0 c1 c2
      clear hx hkl had
      have hwr := Nm.al wr (.cells #[.int .i64 x.k, .string x.word, .int .i64 x.cost] 63)
      have BX : Hid (Rw.Bx (wr.alloc (.cells #[.int .i64 x.k, .string x.word, .int .i64 x.cost] 63)) wr.heap.size #[.int .i64 x.k, .string x.word, .int .i64 x.cost] 63) := Lib.hid (heap_alloc_new _ _)
      have hb : Below w.heap.size w (wr.alloc (.cells #[.int .i64 x.k, .string x.word, .int .i64 x.cost] 63)) := HB.out.trans (hwr.mono (Nat.le_of_lt HS.out))
      have HTx := Lib.hid (HT.out.bt hwr HS.out)
      have HSx : Hid (w.heap.size < (wr.alloc (.cells #[.int .i64 x.k, .string x.word, .int .i64 x.cost] 63)).heap.size) := Lib.hid (Nat.lt_of_lt_of_le HS.out hwr.size)
      have FO := Lib.hid (fun v (hv : Below w.heap.size w v) => Rw.folded_any x.k x.word m v HGx.out.word (HTb.out.bt hv))
      clear HT HP HS HB hwr
      go_wp2_with fail
      refine (FO.out _ hb).mono ?_
      rintro e v ⟨rfl, g⟩
      have hb' := Rw.Nb hb g
      have BX' := Lib.hid (BX.out.bt g)
      have HTx' := Lib.hid (HTx.out.bt g HSx.out)
      have HSx' : Hid (w.heap.size < v.heap.size) := Lib.hid (Nat.lt_of_lt_of_le HSx.out g.size)
      clear hb BX HTx HSx g FO c0 c1 c2
      have hb := hb'
      have BX := BX'
      have HTx := HTx'
      have HSx := HSx'
      clear hb' BX' HTx' HSx'
      have x0 := BX.out.c 0 _ rfl
      have x1 := BX.out.c 1 _ rfl
      have x2 := BX.out.c 2 _ rfl
      cases ht0 : Rw.okF x.k x.word.data.toList m with
      | false =>
        have HF := Lib.hid (HBD.out (.inl (by unfold Rw.okDp; simp [ht0])))
        clear HBD HST
        go_wp2
        go_ret
        exact ⟨congrArg (fun z => Ending.returned (.bool z)) HF.out.symm, hb⟩
      | true =>
      go_wp2_with fail
      refine (Rw.cost_any x.cost v).mono ?_
      rintro e v'  ⟨rfl, rfl⟩
      cases ht1 : Rw.okC x.cost with
      | false =>
        have HF := Lib.hid (HBD.out (.inl (by unfold Rw.okDp; simp [ht0, ht1])))
        clear HBD HST
        go_wp2
        go_ret
        exact ⟨congrArg (fun z => Ending.returned (.bool z)) HF.out.symm, hb⟩
      | true =>
      have HOK : Rw.okDp m x = true := by unfold Rw.okDp; simp [ht0, ht1]
      have HOK := HOK
      go_wp2_with fail
      refine (Rw.freeDp_any x v).mono ?_
      rintro e v2 ⟨rfl, g⟩
      have hb2 := Rw.Nb hb g
      have HT2 := Lib.hid (HTx.out.bt g HSx.out)
      have HS2 : Hid (w.heap.size < v2.heap.size) := Lib.hid (Nat.lt_of_lt_of_le HSx.out g.size)
      clear hb g HTx HSx BX x0 x1 x2
      have AD := Lib.hid (Rw.addDp_any w.heap.size (l.take k) x v2 HT2.out HAG.out HGx.out)
      cases hh : Rw.hasDp (l.take k) x with
      | true =>
        rw [hh] at AD
        have HF := Lib.hid (HBD.out (.inr hh))
        clear hh HST HBD
        go_wp2_with fail
        refine AD.out.mono ?_
        rintro e v3 ⟨rfl, t3, g3⟩
        have hb := hb2.trans g3
        go_wp2
        go_ret
        exact ⟨congrArg (fun z => Ending.returned (.bool z)) HF.out.symm, hb⟩
      | false =>
        rw [hh] at AD
        have HPN := Lib.hid (HST.out HOK hh)
        clear hh HST HBD
        go_wp2_with fail
        refine AD.out.mono ?_
        rintro e v3 ⟨rfl, t3, g3⟩
        have HBN := Lib.hid (hb2.trans g3)
        have HSN : Hid (w.heap.size < v3.heap.size) := Lib.hid (Nat.lt_of_lt_of_le HS2.out g3.size)
        have HTN : Hid (Rw.TabDp v3 w.heap.size (l.take (k + 1))) := Lib.hid (by rw [HTS.out]; simpa using t3)
        clear t3 g3
        go_wp2
        exact ⟨⟨k + 1, by omega, by go_num, HBN, HSN, HTN, HPN⟩, by simp [intOf]; omega⟩
    · have HF : Hid (Rw.oksDp m l = true) := Lib.hid (HP.out.done (by rw [HN.out]; exact hlt))
      have hlti : ¬ (k : Int) < (n : Int) := by omega
      go_wp2
      go_ret
      exact ⟨congrArg (fun z => Ending.returned (.bool z)) HF.out.symm, HB.out⟩
end Go.Proofs.YtkddpealobeleaaGreatDoor
