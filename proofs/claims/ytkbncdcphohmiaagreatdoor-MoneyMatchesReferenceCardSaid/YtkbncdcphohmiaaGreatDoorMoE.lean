/- Layer 8: the search for the latest rate. -/
import Derived.Test.YtkbncdcphohmiaaGreatDoorMoD
import Derived.Deep.QuietTactic
import Derived.BigQuiet
set_option linter.unusedSimpArgs false
set_option linter.unusedVariables false
namespace Go.Proofs.YtkbncdcphohmiaaGreatDoor
open Go.RowKit Go.ChangeMaps
set_option maxRecDepth 100000

theorem Mo.dn {B : Nat} {a w : World} (h : Below B a w) (n : Nat) : Below B a (w.drewN n) := ⟨h.os, h.tape, h.output, h.size, h.block⟩

set_option maxHeartbeats 1000000 in
theorem Mo.closure_any (s c : ByteArray) (d day : Int) (p q : Nat) (w : World) (h4 : w.cell? ⟨p, 0, none⟩ = some (.string c)) (h5 : w.cell? ⟨q, 0, none⟩ = some (.int .i64 day)) (hp : p < w.heap.size) (hq : q < w.heap.size) :
    Calls Tryz.prog 69 #[.agg #[.string s, .int .i64 d], .pointer (some ⟨p, 0, none⟩), .pointer (some ⟨q, 0, none⟩)] w fun e w' => e = .returned (.tuple #[.int .i64 d, .bool (decide (s = c) && decide (d ≤ day))]) ∧ Below w.heap.size w w' := by
  by_cases hsc : s = c
  · have hb : (s.toList == c.toList) = true := by rw [hsc]; simp
    have e1 : Hid (decide (s = c) = true) := Lib.hid (decide_eq_true hsc)
    by_cases hd : d ≤ day
    · have e2 : Hid (decide (d ≤ day) = true) := Lib.hid (decide_eq_true hd)
      clear hsc
      go_enter Tryz.func69, Tryz.ntmps69
      go_wp2
      go_quiet (fail)
      go_wp2
      go_ret2
      exact ⟨by rw [e1.out, e2.out]; rfl, Mo.dn (Mo.al w _) _⟩
    · have e2 : Hid (decide (d ≤ day) = false) := Lib.hid (decide_eq_false hd)
      clear hsc
      go_enter Tryz.func69, Tryz.ntmps69
      go_wp2
      go_quiet (fail)
      go_wp2
      go_ret2
      exact ⟨by rw [e1.out, e2.out]; rfl, Mo.dn (Mo.al w _) _⟩
  · have hb : (s.toList == c.toList) = false := bytes_ne hsc
    have e1 : Hid (decide (s = c) = false) := Lib.hid (decide_eq_false hsc)
    clear hsc
    go_enter Tryz.func69, Tryz.ntmps69
    go_wp2
    go_quiet (fail)
    go_wp2
    go_ret2
    exact ⟨by rw [e1.out]; rfl, Mo.dn (Mo.al w _) _⟩

/-! ### the latest -/
def Mo.Top (l : List Mo.Rt) (c : ByteArray) (day : Int) (f : Bool) (x : Mo.Rt) : Prop :=
  (f = false ∧ x = Mo.Rt.zero ∧ ∀ y ∈ l, ¬ Mo.fits c day y) ∨ (f = true ∧ x ∈ l ∧ Mo.fits c day x ∧ ∀ y ∈ l, Mo.fits c day y → y.day ≤ x.day)
/-- The rates with the numbers that have come. -/
def Mo.got (l : List Mo.Rt) (seen : Array Nat) : List Mo.Rt := seen.toList.map fun i => l.getD i Mo.Rt.zero
theorem Mo.got_push (l : List Mo.Rt) (seen : Array Nat) (i : Nat) (hi : i < l.length) : Mo.got l (seen.push i) = Mo.got l seen ++ [l[i]] := by
  simp [Mo.got, hi]
theorem Mo.Top.start (c : ByteArray) (day : Int) : Mo.Top [] c day false Mo.Rt.zero := .inl ⟨rfl, rfl, fun y h => by cases h⟩
theorem Mo.Top.skip {l : List Mo.Rt} {c : ByteArray} {day : Int} {f : Bool} {x y : Mo.Rt} (h : Mo.Top l c day f x) (hy : ¬ Mo.fits c day y ∨ (f = true ∧ y.day ≤ x.day)) : Mo.Top (l ++ [y]) c day f x := by
  rcases h with ⟨rfl, rfl, h⟩ | ⟨rfl, h1, h2, h3⟩
  · rcases hy with hy | hy
    · refine .inl ⟨rfl, rfl, fun z hz => ?_⟩
      rcases List.mem_append.1 hz with hz | hz
      · exact h z hz
      · simp only [List.mem_singleton] at hz
        subst hz; exact hy
    · cases hy.1
  · refine .inr ⟨rfl, List.mem_append.2 (.inl h1), h2, fun z hz hf => ?_⟩
    rcases List.mem_append.1 hz with hz | hz
    · exact h3 z hz hf
    · simp only [List.mem_singleton] at hz
      subst hz
      rcases hy with hy | hy
      · exact absurd hf hy
      · exact hy.2
theorem Mo.Top.take {l : List Mo.Rt} {c : ByteArray} {day : Int} {f : Bool} {x y : Mo.Rt} (h : Mo.Top l c day f x) (hy : Mo.fits c day y) (hd : f = false ∨ x.day < y.day) : Mo.Top (l ++ [y]) c day true y := by
  refine .inr ⟨rfl, List.mem_append.2 (.inr (List.mem_singleton.2 rfl)), hy, fun z hz hf => ?_⟩
  rcases List.mem_append.1 hz with hz | hz
  · rcases h with ⟨rfl, rfl, h⟩ | ⟨rfl, h1, h2, h3⟩
    · exact absurd hf (h z hz)
    · rcases hd with hd | hd
      · cases hd
      · exact Int.le_trans (h3 z hz hf) (by omega)
  · simp only [List.mem_singleton] at hz
    subst hz
    exact Int.le_refl _
theorem Mo.Top.all {l : List Mo.Rt} {seen : Array Nat} {c : ByteArray} {day : Int} {f : Bool} {x : Mo.Rt} (h : Mo.Top (Mo.got l seen) c day f x) (h1 : ∀ i, i < l.length → i ∈ seen.toList) (h2 : ∀ i ∈ seen.toList, i < l.length) : Mo.Top l c day f x := by
  have e : ∀ y, y ∈ Mo.got l seen ↔ y ∈ l := fun y => by
    unfold Mo.got
    rw [List.mem_map]
    constructor
    · rintro ⟨i, hi, rfl⟩
      have := h2 i hi
      simp [this]
    · intro hy
      obtain ⟨i, hi, rfl⟩ := List.getElem_of_mem hy
      exact ⟨i, h1 i hi, by simp [hi]⟩
  rcases h with ⟨rfl, rfl, h⟩ | ⟨rfl, h3, h4, h5⟩
  · exact .inl ⟨rfl, rfl, fun y hy => h y ((e y).2 hy)⟩
  · exact .inr ⟨rfl, (e x).1 h3, h4, fun y hy => h5 y ((e y).2 hy)⟩
theorem Mo.nodup_len : ∀ (n : Nat) (l : List Nat), l.Nodup → (∀ x ∈ l, x < n) → l.length ≤ n
  | 0, l, _, h => by
    cases l with
    | nil => simp
    | cons a r => exact absurd (h a (by simp)) (by omega)
  | n + 1, l, hn, h => by
    have := Mo.nodup_len n (l.erase n) (hn.erase n) (fun x hx => by
      have h1 := (hn.mem_erase_iff).1 hx
      have h2 := h x h1.2
      have h3 := h1.1
      omega)
    rw [List.length_erase] at this
    split at this <;> omega
def Mo.leftN (r n : Nat) (w : World) : Nat := match w.heap[r]? with
  | some (.mapIter _ _ seen _) => n - seen.size
  | _ => 0
theorem Mo.Iter.left {W : World} {b r : Nat} {l : List Mo.Rt} {seen : Array Nat} (h : Mo.Iter W b r l seen) : Mo.leftN r l.length W = l.length - seen.size := by
  unfold Mo.leftN
  rw [h.it]
theorem Mo.Iter.le {W : World} {b r : Nat} {l : List Mo.Rt} {seen : Array Nat} (h : Mo.Iter W b r l seen) : seen.size ≤ l.length := Mo.nodup_len _ _ h.nodup h.lt
theorem Mo.Iter.bt {W W' : World} {b r : Nat} {l : List Mo.Rt} {seen : Array Nat} (h : Mo.Iter W b r l seen) (hb : Below W.heap.size W W') : Mo.Iter W' b r l seen :=
  ⟨h.tab.bt hb, (hb.block r (Array.getElem?_eq_some_iff.1 h.it).1).trans h.it, h.lt, h.nodup⟩
theorem Mo.Iter.set {W : World} {b r k : Nat} {l : List Mo.Rt} {seen : Array Nat} (h : Mo.Iter W b r l seen) (h1 : b ≠ k) (h2 : r ≠ k) (cs : Array Value) : Mo.Iter (W.setRow k cs) b r l seen :=
  ⟨(setRow_other _ _ _ _ h1).trans h.tab, (setRow_other _ _ _ _ h2).trans h.it, h.lt, h.nodup⟩

theorem Mo.info_rate : (Tryz.prog.info? 27).map (·.size) = some 4 := by kernel_rfl
theorem Mo.results2 {fn : Func} {ty : TypeId} {i j : Nat} (h : fn.results = #[.cell i ty, .tmp j]) (tmps : Array Value) (w : World) (g : Nat) (t : TypeId) (cs : Array Value) {fs : _}
    (hp : tmps.getD i undef = .pointer (some ⟨g, 0, none⟩)) (hg : w.heap[g]? = some (.cells cs t (0, 0)))
    (hu : Tryz.prog.underlying ty = some (.struct fs)) (hi : (Tryz.prog.info? ty).map (·.size) = some cs.size) :
    (results fn tmps).run Tryz.prog w = .ok (.tuple #[.agg cs, tmps.getD j undef]) w := by
  have hp' : tmps[i]?.getD undef = .pointer (some ⟨g, 0, none⟩) := by simpa using hp
  simp [results, h, hp', asAddr, run_loadVar_row w g t ty cs (0, 0) (.struct fs) hg hu rfl hi]
def Mo.LatP (l : List Mo.Rt) (c : ByteArray) (day : Int) (w : World) (e : Ending) (w' : World) : Prop :=
  ∃ (x : Mo.Rt) (f : Bool), e = .returned (.tuple #[.agg #[.string x.cur, .int .i64 x.day, .int .i64 x.num, .int .i64 x.den], .bool f]) ∧ Mo.Top l c day f x ∧ Below w.heap.size w w'

set_option maxHeartbeats 4000000 in
theorem Mo.latest_any (b : Nat) (l : List Mo.Rt) (c : ByteArray) (day : Int) (p q : Nat) (w : World) (hT : Mo.Tab w b l) (h4 : w.cell? ⟨p, 0, none⟩ = some (.string c)) (h5 : w.cell? ⟨q, 0, none⟩ = some (.int .i64 day)) (hp : p < w.heap.size) (hq : q < w.heap.size) :
    Calls Tryz.prog 68 #[.map (some b), .func (.func 69) #[] #[.pointer (some ⟨p, 0, none⟩), .pointer (some ⟨q, 0, none⟩)]] w (Mo.LatP l c day w) := by
  have HC : Hid (∀ v, Below w.heap.size w v → ∀ (s : ByteArray) (d : Int), Calls Tryz.prog 69 #[.agg #[.string s, .int .i64 d], .pointer (some ⟨p, 0, none⟩), .pointer (some ⟨q, 0, none⟩)] v fun e w' => e = .returned (.tuple #[.int .i64 d, .bool (decide (s = c) && decide (d ≤ day))]) ∧ Below v.heap.size v w') :=
    Lib.hid (fun v h s d => Mo.closure_any s c d day p q v ((h.cell hp).trans h4) ((h.cell hq).trans h5) (Nat.lt_of_lt_of_le hp h.size) (Nat.lt_of_lt_of_le hq h.size))
  have HT : Hid (∀ v, Below w.heap.size w v → Mo.Tab v b l) := Lib.hid (fun v h => hT.bt h)
  have hbl := hT.lt
  clear hT h4 h5 hp hq
  have B1 := Lib.hid (Mo.al w (.cells #[.string ⟨#[]⟩, .int .i64 0, .int .i64 0, .int .i64 0] 27))
  have B2 := Lib.hid (Mo.Nb B1.out (Mo.al _ (.cells #[.string ⟨#[]⟩, .int .i64 0, .int .i64 0, .int .i64 0] 27)))
  go_enter Tryz.func68, Tryz.ntmps68
  go_wp2_with (with_reducible refine Mo.wp_range _ rfl _ rfl b l rfl (HT.out _ B2.out) (w.heap.size + 2) (by simp) ?_)
  go_frame
  have ZI := Lib.hid ((Mo.Iter.start (W := (w.alloc (.cells #[.string ⟨#[]⟩, .int .i64 0, .int .i64 0, .int .i64 0] 27)).alloc (.cells #[.string ⟨#[]⟩, .int .i64 0, .int .i64 0, .int .i64 0] 27)) (HT.out _ B2.out)).2)
  have B3 := Lib.hid (Mo.Nb B2.out (Mo.al _ (.mapIter (some b) l.length #[] l.length)))
  have K4 := Lib.hid (((Bk.new w 27 #[.string ⟨#[]⟩, .int .i64 0, .int .i64 0, .int .i64 0]).bt (Mo.al _ (.cells #[.string ⟨#[]⟩, .int .i64 0, .int .i64 0, .int .i64 0] 27))).bt (Mo.al _ (.mapIter (some b) l.length #[] l.length)))
  have K6 := Lib.hid ((Bk.new (w.alloc (.cells #[.string ⟨#[]⟩, .int .i64 0, .int .i64 0, .int .i64 0] 27)) 27 #[.string ⟨#[]⟩, .int .i64 0, .int .i64 0, .int .i64 0]).bt (Mo.al _ (.mapIter (some b) l.length #[] l.length)))
  go_loopw [7, 8] (fun g f wr => ∃ (seen : Array Nat) (x : Mo.Rt) (fd : Bool), g = .int .i64 x.day ∧ f = .bool fd ∧ Hid (Mo.Iter wr b (w.heap.size + 2) l seen) ∧ Hid (Mo.Top (Mo.got l seen) c day fd x) ∧ Hid (Below w.heap.size w wr) ∧ Hid (Bk wr w.heap.size 27 #[.string ⟨#[]⟩, .int .i64 0, .int .i64 0, .int .i64 0]) ∧ Hid (Bk wr (w.heap.size + 1) 27 #[.string x.cur, .int .i64 x.day, .int .i64 x.num, .int .i64 x.den])) (fun _ _ wr => Mo.leftN (w.heap.size + 2) l.length wr)
  case atStart =>
    refine ⟨#[], Mo.Rt.zero, false, rfl, rfl, ?_, Lib.hid (Mo.Top.start c day), B3, K4, ?_⟩
    · have := ZI.out
      simp only [World.size_alloc] at this
      exact Lib.hid this
    · have := K6.out
      simp only [World.size_alloc] at this
      exact Lib.hid this
  case round =>
    clear ZI B3 K4 K6 B1 B2
    obtain ⟨seen, x, fd, rfl, rfl, HI, HX, HB, K4, K6⟩ := hrel
    have HM : Hid (Mo.leftN (w.heap.size + 2) l.length wr = l.length - seen.size) := Lib.hid HI.out.left
    have HS : Hid (w.heap.size + 2 < wr.heap.size) := Lib.hid (Array.getElem?_eq_some_iff.1 HI.out.it).1
    go_wp2_with (at_next; refine Mo.wp_next _ rfl _ rfl b (w.heap.size + 2) l seen rfl HI.out ?_ ?_)
    · intro hall
      have HA : Hid (Mo.Top l c day fd x) := Lib.hid (HX.out.all hall HI.out.lt)
      clear hall HX HI HM
      have k0 := K6.out.cell 0 _ rfl
      have k1 := K6.out.cell 1 _ rfl
      have k2 := K6.out.cell 2 _ rfl
      have k3 := K6.out.cell 3 _ rfl
      go_wp2_with (refine wpList_store_row rfl _ _ _ rfl w.heap.size _ rfl rfl 27 _ K4.out (Mo.info_rate.trans rfl) rfl (by simp [Value.oneCell']) ?_)
      (try simp only [Exit.inBlock, Exit.then])
      exact bodyPost_ret (Mo.results2 (i := 4) (j := 5) rfl _ _ w.heap.size 27 _ rfl (K4.out.set _) Tryz.underlying27 (Mo.info_rate.trans rfl)) rfl ⟨x, fd, rfl, HA.out, below_setRow HB.out (Nat.le_refl _) _⟩
    · intro i hi w2 hns hI2 hg2 hs2 hen
      have HB2 : Hid (Below w.heap.size w w2) := Lib.hid (HB.out.grown hg2 (by have := HS.out; omega) (fun k hk => by cases hk; omega))
      have k4 : Hid (Bk w2 w.heap.size 27 #[.string ⟨#[]⟩, .int .i64 0, .int .i64 0, .int .i64 0]) := Lib.hid ((hg2.block _ (by have := HS.out; omega) (by simp)).trans K4.out)
      have k6 : Hid (Bk w2 (w.heap.size + 1) 27 #[.string x.cur, .int .i64 x.day, .int .i64 x.num, .int .i64 x.den]) := Lib.hid ((hg2.block _ (by have := HS.out; omega) (by simp)).trans K6.out)
      have HI2 : Hid (Mo.Iter w2 b (w.heap.size + 2) l (seen.push i)) := Lib.hid hI2
      have HGP : Hid (Mo.got l (seen.push i) = Mo.got l seen ++ [l[i]]) := Lib.hid (Mo.got_push l seen i hi)
      have HS2 : Hid (w.heap.size + 2 < w2.heap.size) := Lib.hid (by rw [hs2]; exact HS.out)
      have HM2 : Hid (l.length - (seen.push i).size < l.length - seen.size) := Lib.hid (by
        have h1 := hI2.le
        rw [Array.size_push] at h1 ⊢
        omega)
      clear hI2 hg2 hs2 hns HI HB K4 K6 HS
      generalize l[i] = y at *
      have BX := Lib.hid (Bk.new (w2.alloc (.cells #[.string y.cur, .int .i64 y.day] 85)) 27 #[.string y.cur, .int .i64 y.day, .int .i64 y.num, .int .i64 y.den])
      have B5 : Hid (Below w2.heap.size w2 ((w2.alloc (.cells #[.string y.cur, .int .i64 y.day] 85)).alloc (.cells #[.string y.cur, .int .i64 y.day, .int .i64 y.num, .int .i64 y.den] 27))) := Lib.hid (Mo.Nb (Mo.al w2 _) (Mo.al _ _))
      obtain ⟨ft, hft⟩ : ∃ ft, ft = (decide (y.cur = c) && decide (y.day ≤ day)) := ⟨_, rfl⟩
      have HF : Hid (ft = true ↔ Mo.fits c day y) := Lib.hid (by rw [hft]; simp [Mo.fits])
      have HC2 := Lib.hid (fun v h => HC.out v h y.cur y.day)
      rw [← hft] at HC2
      clear hft
      go_wp2_with fail
      refine (HC2.out _ (HB2.out.trans (B5.out.mono (by have := HS2.out; omega)))).mono ?_
      rintro e w3 ⟨rfl, hb3⟩
      have HB3 : Hid (Below w2.heap.size w2 w3) := Lib.hid (Mo.Nb B5.out hb3)
      have hx := BX.out.bt hb3
      have hx0 := hx.cell 0 _ rfl
      have hx1 := hx.cell 1 _ rfl
      have hx2 := hx.cell 2 _ rfl
      have hx3 := hx.cell 3 _ rfl
      simp only [World.size_alloc] at hx0 hx1 hx2 hx3
      have k4' := Lib.hid (k4.out.bt HB3.out)
      have k6' := Lib.hid (k6.out.bt HB3.out)
      have HI3 := Lib.hid (HI2.out.bt HB3.out)
      have HBw : Hid (Below w.heap.size w w3) := Lib.hid (HB2.out.trans (HB3.out.mono (by have := HS2.out; omega)))
      clear hb3 hx BX B5 HC2 k4 k6 HI2 HB2 HB3 hen
      cases ft with
      | false =>
        have HX2 : Hid (Mo.Top (Mo.got l (seen.push i)) c day fd x) := Lib.hid (by
          rw [HGP.out]
          exact HX.out.skip (.inl fun h => by have := HF.out.2 h; cases this))
        clear HX HF HGP
        go_wp2
        go_roundw
        case rel => exact ⟨seen.push i, x, fd, rfl, rfl, HI3, HX2, HBw, k4', k6'⟩
        case measure => rw [HM.out, HI3.out.left]; exact HM2.out
      | true =>
        have HFt : Hid (Mo.fits c day y) := Lib.hid (HF.out.1 rfl)
        by_cases hgt : fd = true ∧ y.day ≤ x.day
        · obtain ⟨rfl, hgt⟩ := hgt
          have HX2 : Hid (Mo.Top (Mo.got l (seen.push i)) c day true x) := Lib.hid (by
            rw [HGP.out]
            exact HX.out.skip (.inr ⟨rfl, hgt⟩))
          have hd : decide (x.day < y.day) = false := decide_eq_false (by omega)
          clear HX HF HGP hgt
          go_wp2
          go_roundw
          case rel => exact ⟨seen.push i, x, true, rfl, rfl, HI3, HX2, HBw, k4', k6'⟩
          case measure => rw [HM.out, HI3.out.left]; exact HM2.out
        · have HX2 : Hid (Mo.Top (Mo.got l (seen.push i)) c day true y) := Lib.hid (by
            rw [HGP.out]
            refine HX.out.take HFt.out ?_
            cases fd with
            | false => exact .inl rfl
            | true => exact .inr (by
                by_cases h : y.day ≤ x.day
                · exact absurd ⟨rfl, h⟩ hgt
                · omega))
          have hne2 : Hid (b ≠ w.heap.size + 1) := Lib.hid (by omega)
          have HI4 := Lib.hid (HI3.out.set hne2.out (by omega : w.heap.size + 2 ≠ w.heap.size + 1) #[.string y.cur, .int .i64 y.day, .int .i64 y.num, .int .i64 y.den])
          have k64 := Lib.hid (k6'.out.set #[.string y.cur, .int .i64 y.day, .int .i64 y.num, .int .i64 y.den])
          have k44 := Lib.hid (k4'.out.far (B' := w.heap.size + 1) #[.string y.cur, .int .i64 y.day, .int .i64 y.num, .int .i64 y.den] (by omega))
          have HB4 := Lib.hid (below_setRow HBw.out (by omega : w.heap.size ≤ w.heap.size + 1) #[.string y.cur, .int .i64 y.day, .int .i64 y.num, .int .i64 y.den])
          cases fd with
          | false =>
            clear HX HF HGP hgt
            go_wp2_with (refine wpList_store_row rfl _ _ _ rfl (w.heap.size + 1) _ rfl rfl 27 _ k6'.out (Mo.info_rate.trans rfl) rfl (by simp [Value.oneCell']) ?_)
            go_roundw
            case rel => exact ⟨seen.push i, y, true, rfl, rfl, HI4, HX2, HB4, k44, k64⟩
            case measure => rw [HM.out, HI4.out.left]; exact HM2.out
          | true =>
            have hd : decide (x.day < y.day) = true := decide_eq_true (by
              by_cases h : y.day ≤ x.day
              · exact absurd ⟨rfl, h⟩ hgt
              · omega)
            clear HX HF HGP hgt
            go_wp2_with (refine wpList_store_row rfl _ _ _ rfl (w.heap.size + 1) _ rfl rfl 27 _ k6'.out (Mo.info_rate.trans rfl) rfl (by simp [Value.oneCell']) ?_)
            go_roundw
            case rel => exact ⟨seen.push i, y, true, rfl, rfl, HI4, HX2, HB4, k44, k64⟩
            case measure => rw [HM.out, HI4.out.left]; exact HM2.out
end Go.Proofs.YtkbncdcphohmiaaGreatDoor
