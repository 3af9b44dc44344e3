/- Layer 9: the program's Parse. -/
import Derived.Test.YtcjlnmfbanknhaaDoorNmP
import Derived.Test.YtcjlnmfbanknhaaDoorNmPm
import Derived.Test.YtcjlnmfbanknhaaDoorNmM
set_option linter.unusedSimpArgs false
set_option linter.unusedVariables false
namespace Go.Proofs.YtcjlnmfbanknhaaDoor
open Go.RowKit Go.Shelf
set_option maxRecDepth 100000
set_option maxHeartbeats 1000000
/-! ### the first colon -/
def Nm.cutAt (c : UInt8) : List UInt8 → List UInt8 × List UInt8 × Bool
  | [] => ([], [], false)
  | x :: l => if x = c then ([], l, true) else (x :: (Nm.cutAt c l).1, (Nm.cutAt c l).2.1, (Nm.cutAt c l).2.2)
theorem Nm.cutAt_index (c : UInt8) : ∀ l : List UInt8, (Lib.index l [c] = -1 ∧ Nm.cutAt c l = (l, [], false)) ∨ ∃ i : Nat, Lib.index l [c] = (i : Int) ∧ Nm.cutAt c l = (l.take i, l.drop (i + 1), true)
  | [] => .inl ⟨rfl, rfl⟩
  | x :: l => by
    unfold Lib.index Nm.cutAt
    by_cases hc : x = c
    · subst hc
      rw [if_pos (by simp [List.isPrefixOf]), if_pos rfl]
      exact .inr ⟨0, rfl, rfl⟩
    · have h1 : ([c] : List UInt8).isPrefixOf (x :: l) = false := by
        simp [List.isPrefixOf, Ne.symm hc]
      rw [h1, if_neg hc]
      rcases Nm.cutAt_index c l with ⟨h2, h3⟩ | ⟨i, h2, h3⟩
      · left
        rw [h2, h3]
        exact ⟨rfl, rfl⟩
      · right
        refine ⟨i + 1, ?_, ?_⟩
        · rw [h2]
          have : ((i : Int) == -1) = false := by simp
          rw [this]
          simp
        · rw [h3]
          rfl
theorem Nm.cut_at (c : UInt8) (l : List UInt8) : Lib.cut l [c] = Nm.cutAt c l := by
  unfold Lib.cut
  rcases Nm.cutAt_index c l with ⟨h2, h3⟩ | ⟨i, h2, h3⟩
  · rw [h2, h3]
    rfl
  · rw [h2, h3, if_pos (by omega)]
    rfl
theorem Nm.cutAt_len (c : UInt8) : ∀ l : List UInt8, (Nm.cutAt c l).1.length ≤ l.length ∧ (Nm.cutAt c l).2.1.length ≤ l.length
  | [] => ⟨Nat.le_refl _, Nat.le_refl _⟩
  | x :: l => by
    have := Nm.cutAt_len c l
    unfold Nm.cutAt
    split
    · exact ⟨Nat.zero_le _, by simp⟩
    · simp only [List.length_cons]
      omega
theorem Nm.cutAt_app (c : UInt8) : ∀ (a r : List UInt8), (∀ x ∈ a, x ≠ c) → Nm.cutAt c (a ++ c :: r) = (a, r, true)
  | [], r, _ => by simp [Nm.cutAt]
  | x :: a, r, h => by
    have ih := Nm.cutAt_app c a r (fun y hy => h y (List.mem_cons_of_mem _ hy))
    rw [List.cons_append, Nm.cutAt, if_neg (h x (List.mem_cons_self ..)), ih]

theorem Nm.cutAt_eq (c : UInt8) : ∀ l, (Nm.cutAt c l).2.2 = true → l = (Nm.cutAt c l).1 ++ c :: (Nm.cutAt c l).2.1
  | [], h => by cases h
  | x :: l, h => by
    unfold Nm.cutAt at h ⊢
    by_cases hx : x = c
    · subst hx
      simp
    · rw [if_neg hx] at h
      rw [if_neg hx]
      have := Nm.cutAt_eq c l h
      simp only [List.cons_append]
      rw [← this]
theorem Nm.word_colon {s : Nat} : ∀ x ∈ Nm.word s, x ≠ 58 := by
  match s with
  | 0 => intro x hx; cases hx
  | 1 => decide
  | 2 => decide
  | 3 => decide
  | 4 => decide
  | n + 5 => intro x hx; cases hx
/-- The variables that package script reads, and the one of the library. -/
structure Nm.Pa (B : Nat) (w : World) : Prop where
  tb : Nm.Tb B w
  mx : ∃ m : Int, w.cell? ⟨2, 0, none⟩ = some (.int .i64 m)
theorem Nm.Pa.bt {w w' : World} (h : Nm.Pa w.heap.size w) (hb : Below w.heap.size w w') : Nm.Pa w'.heap.size w' :=
  ⟨h.tb.bt hb, by obtain ⟨m, hm⟩ := h.mx; exact ⟨m, Nm.cell_bt hm hb⟩⟩
theorem Nm.cut_any (s : ByteArray) (w : World) (hs : s.size ≤ 2000000) (hP : Nm.Pa w.heap.size w) :
    Calls Tryd.prog 26 #[.string s, .string ⟨#[58]⟩] w fun e w' => e = .returned (.tuple #[.string ⟨(Nm.cutAt 58 s.data.toList).1.toArray⟩, .string ⟨(Nm.cutAt 58 s.data.toList).2.1.toArray⟩, .bool (Nm.cutAt 58 s.data.toList).2.2]) ∧ Below w.heap.size w w' := by
  obtain ⟨m, h1⟩ := hP.mx
  refine (Tryd.strings_Cut s ⟨#[58]⟩ m w (by omega) h1).mono ?_
  rintro e w' ⟨rfl, k, rfl⟩
  rw [← Nm.cut_at]
  exact ⟨rfl, ⟨rfl, rfl, rfl, Nat.le_refl _, fun _ _ => rfl⟩⟩
theorem Nm.mlist_mem {x : Nm.E} (hx : x ∈ Nm.mlist) : ∃ s : Nat, 1 ≤ s ∧ s ≤ 4 ∧ x = (Nm.fld s 0, (s : Int)) := by
  simp only [Nm.mlist, Nm.mlistF, List.mem_cons, List.not_mem_nil, or_false] at hx
  rcases hx with rfl | rfl | rfl | rfl
  · exact ⟨1, by omega, by omega, rfl⟩
  · exact ⟨2, by omega, by omega, rfl⟩
  · exact ⟨3, by omega, by omega, rfl⟩
  · exact ⟨4, by omega, by omega, rfl⟩
theorem Nm.mlist_has {s : Nat} (h1 : 1 ≤ s) (h4 : s ≤ 4) : (Nm.fld s 0, (s : Int)) ∈ Nm.mlist := by
  simp only [Nm.mlist, Nm.mlistF, List.mem_cons, List.not_mem_nil, or_false]
  have : s = 1 ∨ s = 2 ∨ s = 3 ∨ s = 4 := by omega
  rcases this with rfl | rfl | rfl | rfl
  · exact .inl rfl
  · exact .inr (.inl rfl)
  · exact .inr (.inr (.inl rfl))
  · exact .inr (.inr (.inr rfl))
theorem Nm.fld0_list (s : Nat) : (Nm.fld s 0).data.toList = Nm.word s := Nm.bt_list _
theorem Nm.find_cut {t a r : Nm.T} {f : Bool} (h : Nm.cutAt 58 t = (a, r, f)) {s : Nat} (hf : Nm.find t = some s) : f = true ∧ a = Nm.word s ∧ r = t.drop (Nm.title s).length := by
  obtain ⟨_, _, u, hu⟩ := Nm.find_some hf
  have : Nm.cutAt 58 t = (Nm.word s, u, true) := by
    rw [hu, Nm.title, List.append_assoc, List.singleton_append, Nm.cutAt_app 58 _ _ Nm.word_colon]
  rw [this] at h
  cases h
  exact ⟨rfl, rfl, by rw [hu]; simp⟩
theorem Nm.cut_find {t a r : Nm.T} (h : Nm.cutAt 58 t = (a, r, true)) {s : Nat} (h1 : 1 ≤ s) (h4 : s ≤ 4) (ha : a = Nm.word s) : Nm.find t = some s := by
  have := Nm.cutAt_eq 58 t (by rw [h])
  rw [h] at this
  rw [this, ha, show Nm.word s ++ 58 :: r = Nm.title s ++ r from by simp [Nm.title]]
  exact Nm.find_title h1 h4 r
theorem Nm.mlist_sh : Nm.Short Nm.mlist := Nm.mlist_short (fun s => Nm.fld_short s) 5

theorem Nm.put2 {W : World} {b : Nat} {x y : Value} {ty : TypeId} (h : W.heap[b]? = some (.cells #[x, y] ty (0, 0))) (k v : Value) :
    ((W.setCell ⟨b, 0, none⟩ k).setCell ⟨b, 1, none⟩ v).cell? ⟨b, 0, none⟩ = some k ∧ ((W.setCell ⟨b, 0, none⟩ k).setCell ⟨b, 1, none⟩ v).cell? ⟨b, 1, none⟩ = some v := by
  simp [World.setCell, World.cell?, Array.getElem?_modify, h]
theorem Nm.box2 {W : World} {b : Nat} {x y : Value} {ty : TypeId} (h : W.heap[b]? = some (.cells #[x, y] ty (0, 0))) (k : Value) :
    W.cell? ⟨b, 0, none⟩ = some x ∧ W.cell? ⟨b, 1, none⟩ = some y ∧ W.frozen? ⟨b, 0, none⟩ = false ∧ W.frozen? ⟨b, 1, none⟩ = false ∧ (W.setCell ⟨b, 0, none⟩ k).cell? ⟨b, 1, none⟩ = some y ∧ (W.setCell ⟨b, 0, none⟩ k).frozen? ⟨b, 1, none⟩ = false := by
  refine ⟨?_, ?_, Lib.frozen_of_heap h 0, Lib.frozen_of_heap h 1, ?_, ?_⟩
  · simp [World.cell?, h]
  · simp [World.cell?, h]
  · simp [World.setCell, World.cell?, Array.getElem?_modify, h]
  · rw [World.frozen?_setCell]
    exact Lib.frozen_of_heap h 1
theorem Nm.own_set {W : World} {B b : Nat} {v : Value} {l : List ByteArray} (h : OwnS W B v l) (i : Nat) (u : Value) (hlt : b < B) : OwnS (W.setCell ⟨b, i, none⟩ u) B v l := by
  unfold OwnS at h ⊢
  exact h.kept (row := some b) ⟨rfl, rfl, rfl, by simp, fun k _ hk => Below.heap_setCell _ _ _ _ (fun e => hk (by rw [show k = b from e]))⟩ (.inr (Nm.row_other h hlt).symm)
def Nm.PPost (w : World) (p : Nm.PR) (e : Ending) (w' : World) : Prop :=
  ∃ v, e = .returned (.tuple #[.agg #[.int .i64 (p.s : Int), v], .int .i64 p.e, .int .i64 p.a]) ∧ OwnS w' w.heap.size v (p.ws.map Nm.bt) ∧ Below w.heap.size w w'
theorem Nm.parse_any (t : ByteArray) (w : World) (hm : t.size ≤ maxLen) (h : Nm.Pa w.heap.size w) :
    Calls Tryd.prog 13 #[.string t] w (Nm.PPost w (Nm.parse t.data.toList)) := by
  have hlen := Lib.size_eq t
  have hB := Nm.al w (.cells #[.int .i64 0, .slice none 0 0] 24)
  by_cases hl : 20000 < t.size
  · rw [Nm.parse_long (by omega)]
    have hd : decide ((20000 : Int) < (t.size : Int)) = true := decide_eq_true (by omega)
    clear hlen h hl hm
    go_enter Tryd.func13, Tryd.ntmps13
    go_wp2
    refine bodyPost_ret (v := .tuple #[.agg #[.int .i64 0, .slice none 0 0], .int .i64 2, .int .i64 (-1)]) (by simp [results, Tryd.f13, go_sem]) rfl ⟨_, rfl, World.ownsRow_nil _ _ _ _, hB⟩
  · have hd : decide ((20000 : Int) < (t.size : Int)) = false := decide_eq_false (by omega)
    have C1 := Lib.hid (fun v (hv : Below w.heap.size w v) => Nm.cut_any t v (by omega) (h.bt hv))
    have S1 := Lib.hid (fun v (hv : Below w.heap.size w v) => Nm.scripts_any v (h.bt hv).tb)
    have A1 := Lib.hid (fun (k : Int) v (hv : Below w.heap.size w v) => Nm.alphabetOf_any k v (h.bt hv).tb)
    obtain ⟨⟨a, r, f⟩, hc⟩ : ∃ x, Nm.cutAt 58 t.data.toList = x := ⟨_, rfl⟩
    rw [hc] at C1
    have hcl := Nm.cutAt_len 58 t.data.toList
    rw [hc] at hcl
    have HC := Lib.hid hc
    obtain ⟨ab, hab⟩ : ∃ ab : ByteArray, (⟨a.toArray⟩ : ByteArray) = ab := ⟨_, rfl⟩
    obtain ⟨rb, hrb⟩ : ∃ rb : ByteArray, (⟨r.toArray⟩ : ByteArray) = rb := ⟨_, rfl⟩
    have habl : ab.data.toList = a := by rw [← hab]
    have hrbl : rb.data.toList = r := by rw [← hrb]
    have has : ab.size ≤ maxLen := by rw [Lib.size_eq, habl]; have := hcl.1; simp only at this; omega
    have hrs : rb.size ≤ 1000000 := by rw [Lib.size_eq, hrbl]; have := hcl.2; simp only at this; omega
    simp only [hab, hrb] at C1
    have HB := Lib.hid hB
    have HLN := Lib.hid (show t.data.toList.length ≤ 20000 by omega)
    have HTS := Lib.hid hlen
    have HAB := Lib.hid habl
    have HRB := Lib.hid hrbl
    have HAS := Lib.hid has
    have HRS := Lib.hid hrs
    clear hlen h hl hm hcl hab hrb habl hrbl hc hB has hrs
    go_enter Tryd.func13, Tryd.ntmps13
    go_wp2_with fail
    refine (C1.out _ HB.out).mono ?_
    rintro e w1 ⟨rfl, g1⟩
    have hb1 := Lib.hid (Nm.Nb HB.out g1)
    have z1 := Lib.hid ((g1.block w.heap.size (by simp)).trans (heap_alloc_new w (.cells #[.int .i64 0, .slice none 0 0] 24)))
    clear g1
    go_wp2_with fail
    refine (S1.out _ hb1.out).mono ?_
    rintro e w2 ⟨mb, rfl, hT, g2⟩
    have hb2 := Lib.hid (Nm.Nb hb1.out g2)
    have z2 := Lib.hid ((g2.block w.heap.size (by have := (Array.getElem?_eq_some_iff.1 z1.out).1; exact this)).trans z1.out)
    clear g2
    obtain ⟨x0, x1, f0, f1, x1', f1'⟩ := Nm.box2 z2.out (.int .i64 0)
    by_cases hin : ∃ s, 1 ≤ s ∧ s ≤ 4 ∧ ab = Nm.fld s 0
    · obtain ⟨s, h1, h4, rfl⟩ := hin
      have HZ : Hid (∀ (z : Int) (fd : Bool), ((fd = false ∧ z = 0 ∧ ∀ x ∈ Nm.mlist, x.1 ≠ Nm.fld s 0) ∨ (fd = true ∧ ∃ x ∈ Nm.mlist, x.1 = Nm.fld s 0 ∧ x.2 = z)) → z = (s : Int) ∧ fd = true) := Lib.hid (fun z fd hz => by
        rcases hz with ⟨_, _, h3⟩ | ⟨h3, x, hx, h5, h6⟩
        · exact absurd rfl (h3 _ (Nm.mlist_has h1 h4))
        · obtain ⟨s', a1, a4, rfl⟩ := Nm.mlist_mem hx
          have := Nm.fld_inj (by omega) (by omega) h5
          subst this
          exact ⟨h6.symm, h3⟩)
      have ha : a = Nm.word s := by rw [← HAB.out, Nm.fld0_list]
      have hsc : Nm.sc (s : Int) = s := by unfold Nm.sc; rw [if_pos (by omega)]; simp
      obtain ⟨wb, hwb⟩ : ∃ wb, Nm.fld s 0 = wb := ⟨_, rfl⟩
      cases f with
      | false =>
        have hfn : Nm.find t.data.toList = none := by
          cases hf : Nm.find t.data.toList with
          | none => rfl
          | some s' => have := (Nm.find_cut HC.out hf).1; cases this
        have HP0 := Lib.hid (Nm.parse_none HLN.out hfn)
        rw [hwb] at HZ HAS ⊢
        clear ha hsc hfn h1 h4 hwb HAB
        go_wp2_with (with_reducible refine Nm.wp_look _ rfl _ _ rfl mb Nm.mlist rfl hT Nm.mlist_sh wb rfl HAS.out ?_; intro z fd hzf; obtain ⟨rfl, rfl⟩ := HZ.out z fd hzf; clear hzf)
        have hp := Nm.put2 z2.out (.int .i64 0) (.slice none 0 0)
        refine bodyPost_ret (v := .tuple #[.agg #[.int .i64 0, .slice none 0 0], .int .i64 5, .int .i64 0]) (by simp [results, Tryd.f13, go_sem, hp.1, hp.2]) rfl (by rw [HP0.out]; exact ⟨_, rfl, World.ownsRow_nil _ _ _ _, (hb2.out.setCell (p := ⟨w.heap.size, 0, none⟩) (Nat.le_refl _) _).setCell (p := ⟨w.heap.size, 1, none⟩) (Nat.le_refl _) _⟩)
      | true =>
        have hfn : Nm.find t.data.toList = some s := Nm.cut_find HC.out h1 h4 ha
        have hdr := (Nm.find_cut HC.out hfn).2.2
        have A2 := A1.out (s : Int)
        rw [hsc] at A2
        have SP := Lib.hid (fun v => Nm.split_all s (Nm.fld s 0) (Nm.fld s 1) (Nm.fld s 2) (Nm.fld s 3) rb v (Nm.fld_ok s) HRS.out)
        have A3 := Lib.hid A2
        have hT6 := Nm.title_len h1 h4
        have hw6 : (Nm.fld s 0).size + 1 = (Nm.title s).length := by rw [Lib.size_eq, Nm.fld0_list]; simp [Nm.title]
        have hrl : rb.size = t.data.toList.length - (Nm.title s).length := by rw [Lib.size_eq, HRB.out, hdr, List.length_drop]
        have hpr : Nm.parse t.data.toList = if (Nm.scan s r [] [] 0).2.1 = 0 then ⟨s, (Nm.scan s r [] [] 0).1, 0, 0⟩ else ⟨0, [], (Nm.scan s r [] [] 0).2.1, ((t.data.toList.length - (Nm.scan s r [] [] 0).2.2 : Nat) : Int)⟩ := by
          unfold Nm.parse
          rw [if_neg (by have := HLN.out; omega), hfn, hdr]
        have hsl := Nm.scan_left s r [] [] 0
        have hrr : r.length = rb.size := by rw [Lib.size_eq, HRB.out]
        have htl : (Nm.title s).length ≤ t.data.toList.length := by
          obtain ⟨_, _, u, hu⟩ := Nm.find_some hfn
          rw [hu, List.length_append]
          omega
        have HNUM : Hid (wb.size + 1 + (rb.size - (Nm.scan s r [] [] 0).2.2) = t.data.toList.length - (Nm.scan s r [] [] 0).2.2) := Lib.hid (by rw [← hwb]; omega)
        unfold Nm.SPost at SP
        rw [HRB.out] at SP
        obtain ⟨al, hal⟩ : ∃ wd, Nm.fld s 1 = wd := ⟨_, rfl⟩
        obtain ⟨fi, hfi⟩ : ∃ wd, Nm.fld s 2 = wd := ⟨_, rfl⟩
        obtain ⟨se, hse⟩ : ∃ wd, Nm.fld s 3 = wd := ⟨_, rfl⟩
        have hwbs : wb.size ≤ 7 := by rw [← hwb]; omega
        have hsz2 : rb.size - (Nm.scan s r [] [] 0).2.2 ≤ 1000000 := by have := HRS.out; omega
        rw [hwb] at HZ HAS A3 SP ⊢
        rw [hal, hfi, hse] at A3 SP
        have HPR := Lib.hid hpr
        have HH := Lib.hid (And.intro h1 h4)
        clear A2 ha hsc hfn h1 h4 hwb HAB hdr hT6 hw6 hrl hpr hsl hrr htl hal hfi hse A1
        go_wp2_with (first | (with_reducible refine Nm.wp_look _ rfl _ _ rfl mb Nm.mlist rfl hT Nm.mlist_sh wb rfl HAS.out ?_; intro z fd hzf; obtain ⟨rfl, rfl⟩ := HZ.out z fd hzf; clear hzf) | fail)
        refine (A3.out _ hb2.out).mono ?_
        rintro e w3 ⟨rfl, g3⟩
        have hb3 := Lib.hid (Nm.Nb hb2.out g3)
        have hl2 := Lib.hid (show w.heap.size < w2.heap.size from (Array.getElem?_eq_some_iff.1 z2.out).1)
        have z3 := Lib.hid ((g3.block w.heap.size hl2.out).trans z2.out)
        clear g3 x0 x1 f0 f1 x1' f1'
        go_wp2_with fail
        refine (SP.out w3).mono ?_
        rintro e w4 ⟨g4, hcase⟩
        have hb4 := Lib.hid (Nm.Nb hb3.out g4)
        have z4 := Lib.hid ((g4.block w.heap.size (Array.getElem?_eq_some_iff.1 z3.out).1).trans z3.out)
        clear g4
        obtain ⟨y0, y1, e0, e1, y1', e1'⟩ := Nm.box2 z4.out (.int .i64 (s : Int))
        obtain ⟨_, _, _, _, y2', e2'⟩ := Nm.box2 z4.out (.int .i64 0)
        obtain ⟨⟨ws, er, rs⟩, hsc⟩ : ∃ x, Nm.scan s r [] [] 0 = x := ⟨_, rfl⟩
        rw [hsc] at hcase HPR HNUM hsz2
        have HSC := Lib.hid hsc
        clear hsc
        rcases hcase with ⟨he0, v, rfl, hown⟩ | ⟨he0, rfl⟩
        · simp only at he0 hown HPR
          subst he0
          have HOWN := Lib.hid hown
          obtain ⟨A0, c0, rfl, _, _, _⟩ := OwnS.form hown
          clear hown HNUM
          obtain ⟨m, hmm⟩ : ∃ m, (ws.map Nm.bt).length = m := ⟨_, rfl⟩
          rw [hmm] at HOWN ⊢
          clear hmm
          go_wp2
          have hp := Nm.put2 z4.out (.int .i64 (s : Int)) (.slice A0 m c0)
          refine bodyPost_ret (v := .tuple #[.agg #[.int .i64 (s : Int), .slice A0 m c0], .int .i64 0, .int .i64 0]) (by simp [results, Tryd.f13, go_sem, hp.1, hp.2]) rfl (by
            rw [HPR.out]
            refine ⟨_, rfl, ?_, (hb4.out.setCell (p := ⟨w.heap.size, 0, none⟩) (Nat.le_refl _) _).setCell (p := ⟨w.heap.size, 1, none⟩) (Nat.le_refl _) _⟩
            have h3 : w.heap.size < w3.heap.size := (Array.getElem?_eq_some_iff.1 z3.out).1
            exact OwnS.mono (Nm.own_set (Nm.own_set HOWN.out 0 _ h3) 1 _ h3) (Nat.le_of_lt h3))
        · simp only at he0 HNUM HPR hsz2
          have hne : (er != 0) = true := by simpa using he0
          rw [if_neg he0] at HPR
          clear he0
          go_wp2
          have hp := Nm.put2 z4.out (.int .i64 0) (.slice none 0 0)
          have hw : (wb.size : Int) + 1 + ((rb.size - rs : Nat) : Int) = ((t.data.toList.length - rs : Nat) : Int) := by
            have := HNUM.out
            omega
          obtain ⟨av, hav⟩ : ∃ av, (wb.size : Int) + 1 + ((rb.size - rs : Nat) : Int) = av := ⟨_, rfl⟩
          rw [hav] at hw ⊢
          clear hav
          refine bodyPost_ret (v := .tuple #[.agg #[.int .i64 0, .slice none 0 0], .int .i64 er, .int .i64 av]) (by simp [results, Tryd.f13, go_sem, hp.1, hp.2]) rfl (by
            rw [HPR.out, hw]
            exact ⟨_, rfl, World.ownsRow_nil _ _ _ _, (hb4.out.setCell (p := ⟨w.heap.size, 0, none⟩) (Nat.le_refl _) _).setCell (p := ⟨w.heap.size, 1, none⟩) (Nat.le_refl _) _⟩)
    · have hfn : Nm.find t.data.toList = none := by
        cases hf : Nm.find t.data.toList with
        | none => rfl
        | some s =>
          obtain ⟨a1, a4, _⟩ := Nm.find_some hf
          have h5 := (Nm.find_cut HC.out hf).2.1
          exact absurd ⟨s, a1, a4, ByteArray.ext (Array.toList_inj.1 (by rw [HAB.out, h5, Nm.fld0_list]))⟩ hin
      have HZ : Hid (∀ (z : Int) (fd : Bool), ((fd = false ∧ z = 0 ∧ ∀ x ∈ Nm.mlist, x.1 ≠ ab) ∨ (fd = true ∧ ∃ x ∈ Nm.mlist, x.1 = ab ∧ x.2 = z)) → z = 0 ∧ fd = false) := Lib.hid (fun z fd hz => by
        rcases hz with ⟨h2, h3, _⟩ | ⟨h3, x, hx, h5, h6⟩
        · exact ⟨h3, h2⟩
        · obtain ⟨s', a1, a4, rfl⟩ := Nm.mlist_mem hx
          exact absurd ⟨s', a1, a4, h5.symm⟩ hin)
      have HP0 := Lib.hid (Nm.parse_none HLN.out hfn)
      clear hin hfn HAB
      cases f
      all_goals
        go_wp2_with (with_reducible refine Nm.wp_look _ rfl _ _ rfl mb Nm.mlist rfl hT Nm.mlist_sh ab rfl HAS.out ?_; intro z fd hzf; obtain ⟨rfl, rfl⟩ := HZ.out z fd hzf; clear hzf)
        have hp := Nm.put2 z2.out (.int .i64 0) (.slice none 0 0)
        refine bodyPost_ret (v := .tuple #[.agg #[.int .i64 0, .slice none 0 0], .int .i64 5, .int .i64 0]) (by simp [results, Tryd.f13, go_sem, hp.1, hp.2]) rfl (by rw [HP0.out]; exact ⟨_, rfl, World.ownsRow_nil _ _ _ _, (hb2.out.setCell (p := ⟨w.heap.size, 0, none⟩) (Nat.le_refl _) _).setCell (p := ⟨w.heap.size, 1, none⟩) (Nat.le_refl _) _⟩)
end Go.Proofs.YtcjlnmfbanknhaaDoor
