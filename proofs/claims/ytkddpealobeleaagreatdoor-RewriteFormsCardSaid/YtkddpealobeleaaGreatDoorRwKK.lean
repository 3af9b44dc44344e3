import Derived.Test.YtkddpealobeleaaGreatDoorRwXY
import Derived.Shelf.SlIter.Nil
import Derived.Shelf.SortM.Plain
import Derived.Shelf.SortM.SortNone
import Derived.Ground.GgzProg
import Derived.Ground.SlgmProg
import Derived.Test.YtkddpealobeleaaGreatDoorRwZ
/- Layer 10: the keys of a map, sorted. -/
set_option linter.unusedSimpArgs false
set_option linter.unusedVariables false
namespace Go.Proofs
open Go.RowKit Go.Maps Go.Sort Go.Shelf
set_option maxRecDepth 100000
set_option maxHeartbeats 2000000
shelf_lay_g SlLaysZ.n7 Ggz 7 at Tryz 40 as Tryz.keysA
shelf_lay_g SlLaysZ.n6 Ggz 6 at Tryz 39 as Tryz.sortedA
shelf_lay_g SlLaysM.n6 Slgm 6 at Tryz 76 as Tryz.sortA
theorem Tryz.sortsA (m : Nat) : AnyZ.SortsIn Tryz.prog Tryz.sortedA_ren Fence.wide m :=
  ⟨fun blk off cap ss W hH hblk hsz => callsIn_wide.2 (AnyM.slices_Sort_string Tryz.sortA blk off cap ss W hH hblk hsz),
   fun p cap W => callsIn_wide.2 (AnyM.slices_Sort_string_none Tryz.sortA p cap W)⟩
namespace YtkddpealobeleaaGreatDoor
theorem Rw.MT.owns {W : World} {b : Nat} {l : Rw.Mp} (hT : Rw.MT W b l) (hl : Rw.Sh l) (hn : (l.map (·.1)).Nodup) (h3 : l.length ≤ 1000) (hc : ∀ x ∈ l, x.2 ≤ 100000) : ∃ D : DataW Unit, W.ownsMap Tryz.prog 9 (plainElem Tryz.prog 3) b l.length D ∧ Maps.size D = l.length ∧ (strKeys D).Perm (l.map (·.1)) := by
  have hrd : ∀ i (hi : i < l.length), WideElems.rd Tryz.prog 9 (plainElem (H := Unit) Tryz.prog 3) (Rw.me i l[i]) = some (.string l[i].1, .lit (.int .i64 (l[i].2 : Int))) := fun i hi => by
    have h1 := Rw.key_some (hl l[i] (List.getElem_mem _))
    rw [Nm.bt_list] at h1
    have h2 : (Lit.int .i64 (l[i].2 : Int)).wf = true := by
      have := hc l[i] (List.getElem_mem _)
      simp only [Lit.wf, Bool.and_eq_true, decide_eq_true_eq]
      have e1 : IntKind.i64.min = -9223372036854775808 := by decide
      have e2 : IntKind.i64.max = 9223372036854775807 := by decide
      omega
    exact WideElems.rd_mk h1 (plainElem_int Tryz.underlying3 h2)
  have hrg : (Rw.mes l).map (WideElems.rg Tryz.prog 9 (plainElem (H := Unit) Tryz.prog 3)) = l.map fun x => (Lit.string x.1, .lit (.int .i64 (x.2 : Int))) := by
    apply List.ext_getElem (by simp [Rw.mes_len])
    intro i h4 h5
    have hi : i < l.length := by simpa using h5
    rw [List.getElem_map, Rw.mes_get l i hi, WideElems.rg_of (hrd i hi), List.getElem_map]
  have hp := WideShapes.sorted_perm ((Rw.mes l).map (WideElems.rg Tryz.prog 9 (plainElem (H := Unit) Tryz.prog 3)))
  refine ⟨_, ⟨(Rw.mes l).toArray, l.length, hT, ⟨by simp [Rw.mes_len]; unfold maxLen; omega, ⟨fun x hx => Rw.mes_born x hx, Rw.mes_nodup l, ?_⟩, fun x hx => ?_⟩, by simp [Rw.mes_len], rfl⟩, ?_, ?_⟩
  · have e : (Rw.mes l).toArray.toList.map (·.key) = (l.map (·.1)).map fun f => Value.string (Nm.bt f) := by
      apply List.ext_getElem (by simp [Rw.mes_len])
      intro i h4 h5
      have hi : i < l.length := by simpa using h5
      simp only [List.getElem_map]
      rw [Rw.mes_get l i hi]
      rfl
    rw [e]
    exact List.Pairwise.map _ (fun a b (hab : a ≠ b) (h : Value.string (Nm.bt a) = Value.string (Nm.bt b)) => hab (Rw.xbt_inj (by simpa using h))) hn
  · obtain ⟨i, hi, rfl⟩ := Rw.mes_mem (l := l) (by simpa using hx)
    exact ⟨_, hrd i hi⟩
  · show List.length _ = _
    rw [show (Rw.mes l).toArray.toList = Rw.mes l from rfl, hp.length_eq]
    simp [Rw.mes_len]
  · show (List.map (fun (p : Lit × DataW Unit) => strOf p.1) _).Perm _
    rw [show (Rw.mes l).toArray.toList = Rw.mes l from rfl]
    refine (hp.map _).trans ?_
    rw [hrg, List.map_map]
    exact List.Perm.of_eq (List.map_congr_left fun x _ => rfl)
/-- What slices.Sorted(maps.Keys(m)) gives. -/
def Rw.SkPost (b : Nat) (l : Rw.Mp) (w : World) (e : Ending) (w' : World) : Prop := ∃ (v : Value) (ss : List (List UInt8)), e = .returned v ∧ ss.Perm (l.map (·.1)) ∧
  w'.ownsRow w.heap.size 9 1 v ss.length ((ss.mergeSort (fun x y => decide (x ≤ y))).map encStr) ∧ Below w.heap.size w w'
theorem Rw.keys_any (mb : Option Nat) (W : World) : Calls Tryz.prog 40 #[.map mb] W fun e w' => e = .returned (.func (.func 77) #[] #[.pointer (some ⟨W.heap.size, 0, none⟩)]) ∧ w' = W.alloc (.cells #[.map mb] 68) :=
  (callsIn_wide (n := 5)).1 (AnyZ.keys_in Tryz.keysA Fence.wide 5 trivial rfl mb W)
theorem Rw.sorted_any {w : World} {b : Nat} {l : Rw.Mp} (hT : Rw.MT w b l) (hl : Rw.Sh l) (hn : (l.map (·.1)).Nodup) (h3 : l.length ≤ 1000) (hc : ∀ x ∈ l, x.2 ≤ 100000) :
    Calls Tryz.prog 39 #[.func (.func 77) #[] #[.pointer (some ⟨w.heap.size, 0, none⟩)]] (w.alloc (.cells #[.map (some b)] 68)) (Rw.SkPost b l (w.alloc (.cells #[.map (some b)] 68))) := by
  obtain ⟨D, hown, hsz, hkeys⟩ := hT.owns hl hn h3 hc
  have hbl := hown.lt
  have hseq : SeqGives Fence.wide 2 Tryz.prog 77 #[.pointer (some ⟨w.heap.size, 0, none⟩)] encStr (fun ss => ss.Perm (strKeys D)) (Maps.size D) (w.alloc (.cells #[.map (some b)] 68)) :=
    AnyZ.keys_gives (ρ := Tryz.keysA_ren) { Tryz.keysA with } Fence.wide _ trivial rfl (by omega) w.heap.size b l.length D _ (by simp) (by simp) (by
      obtain ⟨es, clock, hb, Ft, hs, hD⟩ := hown
      exact ⟨es, clock, (Below.heap_alloc _ _ b hbl).trans hb, Ft, hs, hD⟩)
  have cS := AnyZ.sorted_in Tryz.sortedA Fence.wide 5 trivial trivial trivial trivial rfl (by omega) (Tryz.sortsA _) (enters_of Tryz.func76 (by kernel_rfl) rfl) 77 #[.pointer (some ⟨w.heap.size, 0, none⟩)] trivial (enters_of Tryz.func77 (by kernel_rfl) rfl) _ _ (by rw [hsz]; unfold maxLen; omega) (by rw [hsz]; omega) _ hseq
  refine (callsIn_wide (n := 5)).1 (cS.mono ?_)
  rintro e w' ⟨v, ss, rfl, hS, hrow, hnil, hb⟩
  exact ⟨v, ss, rfl, hS.trans hkeys, hrow, hb⟩
end YtkddpealobeleaaGreatDoor
end Go.Proofs

/- Layer 10: what the search says, and its forms in order. -/
set_option linter.unusedSimpArgs false
set_option linter.unusedVariables false
namespace Go.Proofs.YtkddpealobeleaaGreatDoor
open Go.RowKit Go.Shelf
set_option maxRecDepth 100000
set_option maxHeartbeats 1000000
theorem Rw.okT_rl {t : Rw.TV} (h : Rw.okT t = true) : 1 ≤ t.R.length ∧ t.R.length ≤ 80 ∧ ∀ x ∈ t.R, Rw.okF x.k x.frm.data.toList 3 = true ∧ Rw.okTo x.to.data.toList = true ∧ 0 ≤ x.cost ∧ x.cost ≤ 1000 := by
  unfold Rw.okT Rw.okL Rw.oksRl at h
  simp only [Bool.and_eq_true, decide_eq_true_eq] at h
  refine ⟨h.1.1, h.1.2.1, fun x hx => ?_⟩
  obtain ⟨i, hi, rfl⟩ := List.getElem_of_mem hx
  have h1 := (h.2.2.2.2.1 i hi).1
  unfold Rw.okRl Rw.okC at h1
  simp only [Bool.and_eq_true, decide_eq_true_eq] at h1
  exact ⟨h1.1, h1.2.1, h1.2.2.1, h1.2.2.2⟩
/-- The texts of the last place are the forms. -/
def Rw.Fo (RU : List Rw.Ru) (L : List Nm.T) (most : Int) (m : Rw.Mp) : Prop := (m.map (·.1)).Nodup ∧ ∀ f c, (f, c) ∈ m ↔ (Rw.Least RU L f c ∧ (c : Int) ≤ most)
/-- What the search finds. -/
def Rw.FiPost (w : World) (RU : List Rw.Ru) (L : List Nm.T) (most : Int) (e : Ending) (w' : World) : Prop := Below w.heap.size w w' ∧
  ((∃ m b, e = .returned (.tuple #[.map (some b), .bool true]) ∧ Rw.Fo RU L most m ∧ Rw.Sh m ∧ (∀ x ∈ m, x.2 ≤ 100000) ∧ m.length ≤ 1000 ∧ Rw.MT w' b m) ∨
   (e = .returned (.tuple #[.map none, .bool false]) ∧ Rw.Many RU L most))
theorem Rw.FoPost.says {w : World} {RU : List Rw.Ru} {L : List Nm.T} {rv : List Nat} {most : Int} {n : Nat} {e : Ending} {w' : World} (h : Rw.FoPost w RU L rv (min most 12000) n e w') (hL : L.length = n) (h1 : 1 ≤ n) (hn : n ≤ 12) (hg : Rw.Good RU) (hr : Rw.Right RU L n 0 rv) : Rw.FiPost w RU L most e w' := by
  have hr' : ∀ p, p ≤ L.length → Rw.IsRest RU L p ((fun p => rv.getD p 0) p) := fun p hp => hr p (Nat.zero_le _) (by omega)
  obtain ⟨hb, ⟨M, b, rfl, hs, hbd, hle, hT⟩ | ⟨rfl, M, p, h2, h3, hs, hlt⟩⟩ := h
  · have hf := Rw.Sea.forms (M := M) hg hr' (by rw [hL]; exact hs) (fun e => by rw [e] at hL; simp at hL; omega) (by omega)
    rw [hL] at hf
    refine ⟨hb, .inl ⟨M n, b, rfl, hf, hbd.sh hn (Nat.le_refl _), fun x hx => ?_, hle, hT⟩⟩
    have := (hbd n (Nat.le_refl _) x hx).2
    omega
  · exact ⟨hb, .inr ⟨rfl, hs.many hg hr' (by omega) (Nat.le_refl _) (by omega) hlt⟩⟩
/-- The cost of a form. -/
def Rw.costOf (m : Rw.Mp) (f : Nm.T) : Nat := (Rw.get m f).getD 0
theorem Rw.le_total (a b : Nm.T) : a ≤ b ∨ b ≤ a := List.le_total a b
/-- The forms in order. -/
theorem Rw.Fo.sorted {RU : List Rw.Ru} {L : List Nm.T} {most : Int} {m : Rw.Mp} (h : Rw.Fo RU L most m) {ss : List Nm.T} (hp : ss.Perm (m.map (·.1))) :
    Rw.Are RU L most ((ss.mergeSort (fun x y => decide (x ≤ y))).map fun f => (f, Rw.costOf m f)) := by
  have hq : (ss.mergeSort (fun x y => decide (x ≤ y))).Perm (m.map (·.1)) := (List.mergeSort_perm _ _).trans hp
  have hn : (ss.mergeSort (fun x y => decide (x ≤ y))).Nodup := hq.nodup_iff.2 h.1
  have hs : (ss.mergeSort (fun x y => decide (x ≤ y))).Pairwise (fun x y => decide (x ≤ y) = true) := List.pairwise_mergeSort (fun a b c h1 h2 => by
    simp only [decide_eq_true_eq] at h1 h2 ⊢
    exact List.le_trans h1 h2) (fun a b => by
    rcases Rw.le_total a b with h1 | h1 <;> simp [h1]) ss
  refine ⟨?_, fun f c => ?_⟩
  · rw [List.map_map]
    have e : (Prod.fst ∘ fun f => (f, Rw.costOf m f)) = (id : Nm.T → Nm.T) := rfl
    rw [e, List.map_id]
    refine (hs.and hn).imp fun {a b} hab => ?_
    have h1 : a ≤ b := by simpa using hab.1
    exact Decidable.byContradiction fun h => hab.2 (List.le_antisymm h1 (List.not_lt.1 h))
  · rw [← h.2 f c, List.mem_map]
    constructor
    · rintro ⟨g, hg, e⟩
      cases e
      obtain ⟨⟨g', c'⟩, hx, e⟩ := List.mem_map.1 (hq.mem_iff.1 hg)
      simp only at e
      subst e
      have : Rw.get m g' = some c' := (Rw.get_some h.1).2 hx
      simp only [Rw.costOf, this, Option.getD_some]
      exact hx
    · intro hx
      refine ⟨f, hq.mem_iff.2 (List.mem_map.2 ⟨_, hx, rfl⟩), ?_⟩
      have : Rw.get m f = some c := (Rw.get_some h.1).2 hx
      simp [Rw.costOf, this]
end Go.Proofs.YtkddpealobeleaaGreatDoor

/- Layer 10: Forms. -/
set_option linter.unusedSimpArgs false
set_option linter.unusedVariables false
namespace Go.Proofs.YtkddpealobeleaaGreatDoor
open Go.RowKit Go.Shelf
set_option maxRecDepth 100000
set_option maxHeartbeats 4000000
theorem Rw.make_c (n : Nat) (hn : n ≤ 1000) (w : World) : (Instr.makeSlice 29 (.int .i64 (n : Int)) (.int .i64 (n : Int))).run Tryz.prog w = .ok (.slice (some ⟨w.heap.size, 0, none⟩) n n) (w.alloc (.cells (List.replicate n (Value.int .i64 0)).toArray 3)) := by
  obtain ⟨i0, hi, hz0, hz1, hz2⟩ := info_parts Rw.infoI
  have := run_make (P := Tryz.prog) w 29 3 i0 (.int .i64 0) Tryz.underlying29 hi hz0 .i64 .i64 n n (by omega) (Int.le_refl _) (by rw [hz2]; omega) (by omega)
  rw [this, hz1]
  simp only [Int.toNat_natCast, Nat.mul_one]
  have e : madeCells (Value.int .i64 0).cells n = (List.replicate n (Value.int .i64 0)).toArray := by
    apply Array.ext'
    show (madeCells #[Value.int .i64 0] n).toList = _
    rw [toList_madeCells_one]
  rw [e]
theorem Rw.look1 {W : World} {b : Nat} {l : Rw.Mp} (hT : Rw.MT W b l) (hl : Rw.Sh l) (hn : (l.map (·.1)).Nodup) {f : Nm.T} (hs : f.length ≤ 1000) :
    (Instr.lookup 68 (.map (some b)) (.string (Nm.bt f)) false).run Tryz.prog W = .ok (.int .i64 (Rw.costOf l f : Int)) W := by
  unfold Rw.costOf
  rcases Rw.find_key W hl hs with ⟨h1, h2⟩ | ⟨j, hj, h1, h2⟩
  · rw [Rw.get_none.2 h2]
    simp [Instr.lookup, run_underlying Tryz.underlying68, MapKept.run_getObj_map hT, Rw.keyed.check W _ (Rw.key_some hs), h1, Rw.xzero, Result.andThen]
  · have hg : Rw.get l f = some l[j].2 := (Rw.get_some hn).2 (by rw [← h2]; exact List.getElem_mem _)
    rw [hg]
    simp [Instr.lookup, run_underlying Tryz.underlying68, MapKept.run_getObj_map hT, Rw.keyed.check W _ (Rw.key_some hs), h1, Result.andThen]
/-- The costs that were written. -/
def Rw.ccs (m : Rw.Mp) (ls : List Nm.T) (j : Nat) : List Value := ls.mapIdx fun i f => if i < j then Value.int .i64 (Rw.costOf m f : Int) else Value.int .i64 0
theorem Rw.ccs_start (m : Rw.Mp) (ls : List Nm.T) : Rw.ccs m ls 0 = List.replicate ls.length (Value.int .i64 0) := by
  apply List.ext_getElem (by simp [Rw.ccs])
  intro i h1 h2
  simp [Rw.ccs]
theorem Rw.ccs_end (m : Rw.Mp) (ls : List Nm.T) : Rw.ccs m ls ls.length = ls.map fun f => Value.int .i64 (Rw.costOf m f : Int) := by
  apply List.ext_getElem (by simp [Rw.ccs])
  intro i h1 h2
  have : i < ls.length := by simpa using h2
  simp [Rw.ccs, this]
theorem Rw.ccs_set (m : Rw.Mp) (ls : List Nm.T) (j : Nat) (hj : j < ls.length) : (Rw.ccs m ls j).set j (.int .i64 (Rw.costOf m ls[j] : Int)) = Rw.ccs m ls (j + 1) := by
  apply List.ext_getElem (by simp [Rw.ccs])
  intro k h1 h2
  by_cases h : j = k
  · subst h
    simp [Rw.ccs]
  · rw [List.getElem_set_ne h]
    simp only [Rw.ccs, List.getElem_mapIdx]
    by_cases hk : k < j
    · rw [if_pos hk, if_pos (by omega)]
    · rw [if_neg hk, if_neg (by omega)]
/-- What Forms gives. -/
def Rw.FrPost (t : Rw.TV) (k : Int) (x : ByteArray) (most : Int) (w : World) (e : Ending) (w' : World) : Prop := Below w.heap.size w w' ∧
  ((Rw.isL t k x = false ∧ e = .returned (.tuple #[.slice none 0 0, .slice none 0 0, .int .i64 1])) ∨
   (Rw.isL t k x = true ∧ Rw.Many (Rw.rus k t.R) (Rw.lts k x) most ∧ e = .returned (.tuple #[.slice none 0 0, .slice none 0 0, .int .i64 2])) ∨
   (Rw.isL t k x = true ∧ ∃ fs : Rw.Mp, Rw.Are (Rw.rus k t.R) (Rw.lts k x) most fs ∧ fs.length ≤ 1000 ∧ Rw.Sh fs ∧ (∀ y ∈ fs, y.2 ≤ 100000) ∧ ∃ v g, e = .returned (.tuple #[v, .slice (some ⟨g, 0, none⟩) fs.length fs.length, .int .i64 0]) ∧
     OwnS w' w.heap.size v (fs.map fun y => Nm.bt y.1) ∧ w.heap.size ≤ g ∧ w'.heap[g]? = some (.cells (fs.map fun y => Value.int .i64 (y.2 : Int)).toArray 3 (0, 0))))
theorem Rw.formsT_any (t : Rw.TV) (k : Int) (x : ByteArray) (most : Int) (w : World) (h : t.In w) (hT : Nm.Tb w.heap.size w) (hm : x.size ≤ maxLen) :
    Calls Tryz.prog 14 #[t.val, .int .i64 k, .string x, .int .i64 most] w (Rw.FrPost t k x most w) := by
  have LO := Lib.hid (fun v (hv : Below w.heap.size w v) => Rw.lettersOf_any t k x v (h.bt hv) (hT.bt hv) hm)
  unfold Rw.LoPost at LO
  unfold Rw.FrPost
  cases hL : Rw.isL t k x with
  | false =>
    rw [hL] at LO
    obtain ⟨A, a, B, b, C, c, R, D, E, d, o, i⟩ := t
    unfold Rw.TV.val
    simp only
    have hb := Nm.al w (.cells #[.slice A R.length a, .slice B D.length b, .slice C E.length c, .int .i64 d, .int .i64 o, .int .i64 i] 25)
    clear h hT hm hL
    go_enter Tryz.func14, Tryz.ntmps14
    go_wp2_with fail
    refine (LO.out _ hb).mono ?_
    rintro e v ⟨g, ⟨hf, _⟩ | ⟨_, rfl⟩⟩
    · cases hf
    have HB := Lib.hid (Rw.Nb hb g)
    clear hb g
    go_wp2
    refine bodyPost_ret (v := .tuple #[.slice none 0 0, .slice none 0 0, .int .i64 1]) (by simp [results, Tryz.f14, go_sem]) rfl ?_
    exact ⟨HB.out, .inl ⟨trivial, rfl⟩⟩
  | true =>
    rw [hL] at LO
    obtain ⟨hokT, hwd⟩ := Rw.isL_word hL
    obtain ⟨hl1, hl12⟩ := Rw.isW_lts hwd
    obtain ⟨hR1, hR80, hRf⟩ := Rw.okT_rl hokT
    have HGD := Lib.hid (Rw.rus_good (k := k) hRf)
    obtain ⟨L, hLL⟩ : ∃ L, Rw.lts k x = L := ⟨_, rfl⟩
    rw [hLL] at LO hl1 hl12 ⊢
    obtain ⟨n, hn⟩ : ∃ n, L.length = n := ⟨_, rfl⟩
    rw [hn] at hl1 hl12
    have hmn : (L.map Nm.bt).length = n := by rw [List.length_map, hn]
    have HN := Lib.hid (And.intro hn hmn)
    obtain ⟨A, a, B, b, C, c, R, D, E, d, o, i⟩ := t
    unfold Rw.TV.val
    simp only at hR1 hR80 hRf HGD ⊢
    have HH := Lib.hid h
    have HTb := Lib.hid hT
    have HRF := Lib.hid hRf
    obtain ⟨q, hq⟩ : ∃ q, R.length = q := ⟨_, rfl⟩
    have HQ := Lib.hid hq
    have hb := Nm.al w (.cells #[.slice A R.length a, .slice B D.length b, .slice C E.length c, .int .i64 d, .int .i64 o, .int .i64 i] 25)
    have BX := Lib.hid (Rw.box6 w #[.slice A R.length a, .slice B D.length b, .slice C E.length c, .int .i64 d, .int .i64 o, .int .i64 i])
    rw [hq] at hR80 hR1
    clear h hT hm hL hLL hn hmn hq hRf hokT hwd
    go_enter Tryz.func14, Tryz.ntmps14
    go_wp2_with fail
    refine (LO.out _ hb).mono ?_
    rintro e v ⟨g, ⟨_, u, rfl, ou⟩ | ⟨hf, _⟩⟩
    rotate_left
    · cases hf
    have HB := Lib.hid (Rw.Nb hb g)
    have BX1 := Lib.hid (BX.out.bt g)
    obtain ⟨A1, c1, rfl, s1, hc1, hc2⟩ := ou.form
    rw [HN.out.2] at hc1 ⊢
    have S1 := Lib.hid s1
    rw [HQ.out] at BX1 ⊢
    have x0 := BX1.out.c 0 _ rfl
    have SE := Lib.hid (Rw.search_any A A1 a c1 R q HQ.out L n HN.out.1 k most v hl1 hl12 hR80 hc1 hc2 ((HH.out.bt HB.out).r) HH.out.gr HRF.out s1 (HTb.out.bt HB.out))
    unfold maxLen at hc2
    clear hb g BX ou s1 LO
    go_wp2_with fail
    refine SE.out.mono ?_
    rintro e V ⟨gs, gr, sb, vs, rv, rfl, hns, hrt, hbV, _⟩
    have FO := Lib.hid (Rw.forms_any gs gr sb (v.heap.size + 4) n (min most 12000) vs rv _ (Rw.rus k R) L V hns HN.out.1 rfl hrt HGD.out hl1 hl12)
    have HRT := Lib.hid hrt
    have HB2 := Lib.hid (Rw.Nb HB.out hbV)
    clear hns hrt hbV SE x0 BX1 S1 HB
    go_wp2_with fail
    refine FO.out.mono ?_
    rintro e V2 hpost
    obtain ⟨g2, ⟨m, bb, rfl, hfo, hsh, hcs, hml, hMT⟩ | ⟨rfl, hmany⟩⟩ := hpost.says HN.out.1 hl1 hl12 HGD.out HRT.out
    · have HB3 := Lib.hid (Rw.Nb HB2.out g2)
      have SO := Lib.hid (Rw.sorted_any hMT hsh hfo.1 hml hcs)
      have HFO := Lib.hid hfo
      have HSH := Lib.hid hsh
      have HCS := Lib.hid hcs
      have HML := Lib.hid hml
      have HMTh := Lib.hid hMT
      clear g2 hpost FO hfo hsh hcs hml hMT
      go_wp2_with fail
      refine (Rw.keys_any (some bb) V2).mono ?_
      rintro e w1 ⟨rfl, rfl⟩
      go_wp2_with fail
      refine SO.out.mono ?_
      rintro e V3 ⟨v3, ss, rfl, hperm, hrow, hb3⟩
      have hAre := HFO.out.sorted hperm
      have hlen : ss.length = (ss.mergeSort (fun x y => decide (x ≤ y))).length := by rw [List.length_mergeSort]
      have hpm : (ss.mergeSort (fun x y => decide (x ≤ y))).Perm (m.map (·.1)) := (List.mergeSort_perm _ _).trans hperm
      rw [hlen] at hrow
      generalize ss.mergeSort (fun x y => decide (x ≤ y)) = ls at *
      clear hlen hperm
      have hp1000 : ls.length ≤ 1000 := by rw [hpm.length_eq, List.length_map]; exact HML.out
      have hA2 := Nm.al V2 (.cells #[.map (some bb)] 68)
      have hown : OwnS V3 V2.heap.size v3 (ls.map Nm.bt) := by
        unfold OwnS
        rw [List.length_map, List.map_map]
        exact ownsRow_base_a hrow (by simp)
      obtain ⟨A3, c3, rfl, s3, hc3, hc3m⟩ := hown.form
      have hB4 := Rw.Nb HB3.out (hA2.trans (hb3.mono hA2.size))
      have hMT3 := HMTh.out.bt (hA2.trans (hb3.mono hA2.size))
      obtain ⟨p, hp⟩ : ∃ p, ls.length = p := ⟨_, rfl⟩
      have hlm : (ls.map Nm.bt).length = p := by rw [List.length_map, hp]
      rw [hlm] at hc3 ⊢
      have hmk := Rw.make_c p (by omega) V3
      have HP := Lib.hid (And.intro hp hlm)
      have HOW := Lib.hid hown
      have HS3 := Lib.hid s3
      have HB4 := Lib.hid hB4
      have HM3 := Lib.hid hMT3
      have HAR := Lib.hid hAre
      have HPM := Lib.hid hpm
      have hsz2 := hb3.size
      rw [World.size_alloc] at hsz2
      have HC0 : Hid ((V3.alloc (.cells (List.replicate p (Value.int .i64 0)).toArray 3)).heap[V3.heap.size]? = some (.cells (Rw.ccs m ls 0).toArray 3 (0, 0))) := Lib.hid (by
        rw [Rw.ccs_start, hp]
        exact heap_alloc_new _ _)
      have HA4 := Lib.hid (Nm.al V3 (.cells (List.replicate p (Value.int .i64 0)).toArray 3))
      have HSZ : Hid (w.heap.size ≤ V2.heap.size ∧ V2.heap.size ≤ V3.heap.size) := Lib.hid ⟨HB3.out.size, by omega⟩
      unfold maxLen at hc3m
      have hp1 : p ≤ 1000 := by omega
      clear hp hlm hown s3 hB4 hMT3 hAre hpm hrow hb3 hA2 HMTh SO hp1000 hsz2 HB3 HB2
      go_wp2_with fail
      clear hmk
      go_loopw [49] (fun s49 wr => ∃ j : Nat, j ≤ p ∧ s49 = .int .i64 (j : Int) ∧ Hid (Below V3.heap.size V3 wr) ∧ Hid (wr.heap[V3.heap.size]? = some (.cells (Rw.ccs m ls j).toArray 3 (0, 0)))) (fun s49 _ => p - (intOf s49).toNat)
      case atStart => exact ⟨0, Nat.zero_le _, rfl, HA4, HC0⟩
      case round =>
        clear HC0 HA4
        obtain ⟨U, hU⟩ : ∃ U, wr = U := ⟨_, rfl⟩
        rw [hU] at hrel ⊢
        clear hU
        obtain ⟨j, hj, rfl, HBU, HCU⟩ := hrel
        by_cases hjp : j < p
        · have hjl : j < ls.length := by rw [HP.out.1]; exact hjp
          have hji : (j : Int) < (p : Int) := by omega
          have hj0 : (0 : Int) ≤ (j : Int) := by omega
          obtain ⟨ad, hA, hadl, hcj⟩ := (Nm.sbt HS3.out HBU.out) j (by rw [HP.out.2]; exact hjp)
          subst hA
          have hgd : (ls.map Nm.bt).getD j ByteArray.empty = Nm.bt (ls[j]'hjl) := by simp [List.getD_eq_getElem?_getD, hjl]
          rw [hgd] at hcj
          have hmem : (ls[j]'hjl) ∈ m.map (·.1) := HPM.out.mem_iff.1 (List.getElem_mem _)
          have hfl : (ls[j]'hjl).length ≤ 1000 := by
            obtain ⟨y, hy, e⟩ := List.mem_map.1 hmem
            rw [← e]
            exact HSH.out y hy
          have hlk := Rw.look1 (HM3.out.bt HBU.out) HSH.out HFO.out.1 hfl
          have hset := Rw.ccs_set m ls j hjl
          have hfz : U.frozen? ⟨V3.heap.size, j, none⟩ = false := Lib.frozen_of_heap HCU.out j
          have hcl : ∃ z, U.cell? ⟨V3.heap.size, j, none⟩ = some z := by
            have := HCU.out
            simp [World.cell?, this, Rw.ccs, hjl]
          obtain ⟨z, hcz⟩ := hcl
          obtain ⟨f, hf⟩ : ∃ f, ls[j]'hjl = f := ⟨_, rfl⟩
          rw [hf] at hcj hlk hset
          obtain ⟨cf, hcf⟩ : ∃ cf, Rw.costOf m f = cf := ⟨_, rfl⟩
          rw [hcf] at hlk hset
          have HCN : Hid ((U.setCell ⟨V3.heap.size, j, none⟩ (.int .i64 (cf : Int))).heap[V3.heap.size]? = some (.cells (Rw.ccs m ls (j + 1)).toArray 3 (0, 0))) := Lib.hid (by
            rw [← hset]
            have := HCU.out
            simp [World.setCell, Array.getElem?_modify, this])
          have HBN := Lib.hid (HBU.out.setCell (p := ⟨V3.heap.size, j, none⟩) (Nat.le_refl _) (.int .i64 (cf : Int)))
          clear hset hcf hf hgd hmem hfl hadl
          go_wp2
          exact ⟨⟨j + 1, by omega, by go_num, HBN, HCN⟩, by simp [intOf]; omega⟩
        · obtain rfl : j = p := by omega
          have hji : ¬ (j : Int) < (j : Int) := by omega
          go_wp2
          refine bodyPost_ret (v := .tuple #[.slice A3 j c3, .slice (some ⟨V3.heap.size, 0, none⟩) j j, .int .i64 0]) (by simp [results, Tryz.f14, go_sem]) rfl ?_
          have hsz := HSZ.out
          have hin : ∀ f ∈ ls, ∃ c, (f, c) ∈ m ∧ Rw.costOf m f = c := fun f hf => by
            obtain ⟨⟨g, c⟩, hy, e⟩ := List.mem_map.1 (HPM.out.mem_iff.1 hf)
            simp only at e
            subst e
            exact ⟨c, hy, by unfold Rw.costOf; rw [(Rw.get_some HFO.out.1).2 hy]; rfl⟩
          have hlen : (ls.map fun f => (f, Rw.costOf m f)).length = j := by rw [List.length_map, HP.out.1]
          have hmp : (ls.map fun f => (f, Rw.costOf m f)).map (fun y => Nm.bt y.1) = ls.map Nm.bt := by
            rw [List.map_map]
            rfl
          have hmc : (ls.map fun f => (f, Rw.costOf m f)).map (fun y => Value.int .i64 (y.2 : Int)) = Rw.ccs m ls j := by
            rw [List.map_map, ← HP.out.1, Rw.ccs_end]
            rfl
          have hown : OwnS U w.heap.size (.slice A3 j c3) (ls.map Nm.bt) := by
            have h1 := own_below HOW.out HBU.out
            rw [HP.out.2] at h1
            exact Nm.row_mono h1 hsz.1
          have hfin : ∃ fs : Rw.Mp, Rw.Are (Rw.rus k R) L most fs ∧ fs.length = j ∧ Rw.Sh fs ∧ (∀ y ∈ fs, y.2 ≤ 100000) ∧ fs.map (fun y => Nm.bt y.1) = ls.map Nm.bt ∧ fs.map (fun y => Value.int .i64 (y.2 : Int)) = Rw.ccs m ls j :=
            ⟨_, HAR.out, hlen, fun y hy => by
              obtain ⟨f, hf, rfl⟩ := List.mem_map.1 hy
              obtain ⟨c, hc, _⟩ := hin f hf
              show f.length ≤ 1000
              exact HSH.out (f, c) hc, fun y hy => by
              obtain ⟨f, hf, rfl⟩ := List.mem_map.1 hy
              obtain ⟨c, hc, e⟩ := hin f hf
              show Rw.costOf m f ≤ _
              rw [e]
              exact HCS.out (f, c) hc, hmp, hmc⟩
          obtain ⟨fs, f1, f2, f3, f4, f5, f6⟩ := hfin
          refine ⟨HB4.out.trans (HBU.out.mono (by omega)), .inr ⟨fs, f1, by omega, f3, fun a b hab => f4 (a, b) hab, .slice A3 j c3, V3.heap.size, by rw [f2], ?_, by omega, ?_⟩⟩
          · rw [f5]
            exact hown
          · rw [f6]
            exact HCU.out
    · have HB3 := Lib.hid (Rw.Nb HB2.out g2)
      have HMY := Lib.hid hmany
      clear g2 hmany hpost FO
      go_wp2
      refine bodyPost_ret (v := .tuple #[.slice none 0 0, .slice none 0 0, .int .i64 2]) (by simp [results, Tryz.f14, go_sem]) rfl ?_
      exact ⟨HB3.out, .inr (.inl ⟨trivial, HMY.out, rfl⟩)⟩
end Go.Proofs.YtkddpealobeleaaGreatDoor
