/- Layer 8: the program's table of rates. -/
import Derived.Test.YtkbncdcphohmiaaGreatDoorMoC
import Derived.Test.YtkbncdcphohmiaaGreatDoorNaIM
import Derived.Laws.CopyOwn
import Derived.Laws.Rows
import Derived.Laws.Tables
import Derived.Deep.WholeRow
set_option linter.unusedSimpArgs false
set_option linter.unusedVariables false
namespace Go.Proofs.YtkbncdcphohmiaaGreatDoor
open Go.RowKit Go.ChangeMaps
set_option maxRecDepth 100000

theorem Mo.add_block (a : Addr) (k : Nat) : (a.add k).block = a.block := by
  unfold Addr.add
  split <;> rfl
/-- The slice at A holds these rates; all its cells lie below block B. -/
def Mo.Rts (w : World) (B : Nat) (A : Option Addr) (l : List Mo.Rt) : Prop := ∀ k (h : k < l.length), ∃ ad, A = some ad ∧ ad.block < B ∧
  w.cell? (ad.add (k * 4)) = some (.string l[k].cur) ∧ w.cell? ((ad.add (k * 4)).add 1) = some (.int .i64 l[k].day) ∧ w.cell? ((ad.add (k * 4)).add 2) = some (.int .i64 l[k].num) ∧ w.cell? ((ad.add (k * 4)).add 3) = some (.int .i64 l[k].den)
theorem Mo.Rts.below {w w' : World} {B B' : Nat} {A : Option Addr} {l : List Mo.Rt} (h : Mo.Rts w B A l) (hb : Below B' w w') (hB : B ≤ B') : Mo.Rts w' B A l := fun k hk => by
  obtain ⟨ad, rfl, hlt, h0, h1, h2, h3⟩ := h k hk
  exact ⟨ad, rfl, hlt, (hb.cell (by rw [Mo.add_block]; omega)).trans h0, (hb.cell (by rw [Mo.add_block, Mo.add_block]; omega)).trans h1, (hb.cell (by rw [Mo.add_block, Mo.add_block]; omega)).trans h2, (hb.cell (by rw [Mo.add_block, Mo.add_block]; omega)).trans h3⟩
theorem Mo.Rts.mono {w : World} {B B' : Nat} {A : Option Addr} {l : List Mo.Rt} (h : Mo.Rts w B A l) (hB : B ≤ B') : Mo.Rts w B' A l := fun k hk => by
  obtain ⟨ad, rfl, hlt, hc⟩ := h k hk
  exact ⟨ad, rfl, by omega, hc⟩
theorem Mo.Rts.bt {w w' : World} {A : Option Addr} {l : List Mo.Rt} (h : Mo.Rts w w.heap.size A l) (hb : Below w.heap.size w w') : Mo.Rts w' w'.heap.size A l := (h.below hb (Nat.le_refl _)).mono hb.size
theorem Mo.Rts.at {w : World} {B : Nat} {A : Option Addr} {l : List Mo.Rt} (h : Mo.Rts w B A l) {k : Nat} (hk : k < l.length) : ∃ ad, A = some ad ∧
    w.cell? (ad.add (k * 4)) = some (.string l[k].cur) ∧ w.cell? { block := (ad.add (k * 4)).block, off := (ad.add (k * 4)).off + 1 } = some (.int .i64 l[k].day) ∧ w.cell? { block := (ad.add (k * 4)).block, off := (ad.add (k * 4)).off + 2 } = some (.int .i64 l[k].num) ∧ w.cell? { block := (ad.add (k * 4)).block, off := (ad.add (k * 4)).off + 3 } = some (.int .i64 l[k].den) := by
  obtain ⟨ad, e, _, h0, h1, h2, h3⟩ := h k hk
  exact ⟨ad, e, h0, h1, h2, h3⟩

/-- A block of cells. -/
def Bk (w : World) (B : Nat) (t : TypeId) (cs : Array Value) : Prop := w.heap[B]? = some (.cells cs t (0, 0))
theorem Bk.lt {w : World} {B : Nat} {t : TypeId} {cs : Array Value} (h : Bk w B t cs) : B < w.heap.size := (Array.getElem?_eq_some_iff.1 h).1
theorem Bk.bt {w w' : World} {B : Nat} {t : TypeId} {cs : Array Value} (h : Bk w B t cs) (hb : Below w.heap.size w w') : Bk w' B t cs := (hb.block B h.lt).trans h
theorem Bk.below {w w' : World} {B n : Nat} {t : TypeId} {cs : Array Value} (h : Bk w B t cs) (hb : Below n w w') (hn : B < n) : Bk w' B t cs := (hb.block B hn).trans h
theorem Bk.new (w : World) (t : TypeId) (cs : Array Value) : Bk (w.alloc (.cells cs t)) w.heap.size t cs := heap_alloc_new w _
theorem Bk.set {w : World} {B : Nat} {t : TypeId} {cs : Array Value} (h : Bk w B t cs) (ds : Array Value) : Bk (w.setRow B ds) B t ds := setRow_heap _ _ _ _ _ _ h
theorem Bk.far {w : World} {B B' : Nat} {t : TypeId} {cs : Array Value} (h : Bk w B t cs) (ds : Array Value) (hne : B ≠ B') : Bk (w.setRow B' ds) B t cs := (setRow_other _ _ _ _ hne).trans h
theorem Bk.cell {w : World} {B : Nat} {t : TypeId} {cs : Array Value} (h : Bk w B t cs) (i : Nat) (v : Value) (hi : cs[i]? = some v) : w.cell? ⟨B, i, none⟩ = some v := by
  unfold Bk at h
  simp [World.cell?, h, hi]
theorem Bk.frozen {w : World} {B : Nat} {t : TypeId} {cs : Array Value} (h : Bk w B t cs) (i : Nat) : w.frozen? ⟨B, i, none⟩ = false := by
  unfold Bk at h
  simp [World.frozen?, h]
theorem Mo.Nb {w v u : World} (h : Below w.heap.size w v) (g : Below v.heap.size v u) : Below w.heap.size w u := h.trans (g.mono h.size)
theorem Mo.al (w : World) (o : Obj) : Below w.heap.size w (w.alloc o) := (Below.refl _ _).alloc (Nat.le_refl _) o
theorem Mo.Tab.bt {w w' : World} {b : Nat} {l : List Mo.Rt} (h : Mo.Tab w b l) (hb : Below w.heap.size w w') : Mo.Tab w' b l := (hb.block b (Array.getElem?_eq_some_iff.1 h).1).trans h
theorem Mo.Tab.lt {w : World} {b : Nat} {l : List Mo.Rt} (h : Mo.Tab w b l) : b < w.heap.size := (Array.getElem?_eq_some_iff.1 h).1
theorem Mo.made (w : World) : Mo.Tab (w.alloc (.map #[] 0)) w.heap.size [] := heap_alloc_new w _

def Mo.base (base : ByteArray) : Mo.Rt := ⟨base, 0, 1, 1⟩
/-- What tableOf returns. -/
def Mo.TabP (l : List Mo.Rt) (base : ByteArray) (w : World) (e : Ending) (w' : World) : Prop := Below w.heap.size w w' ∧
  ((Mo.valid l base = false ∧ e = .returned (.tuple #[.map none, .bool false])) ∨ (Mo.valid l base = true ∧ e = .returned (.tuple #[.map (some w.heap.size), .bool true]) ∧ Mo.Tab w' w.heap.size (Mo.base base :: l)))
/-- The first k rates are right, and differ. -/
def Mo.Pre (l : List Mo.Rt) (base : ByteArray) (k : Nat) : Prop := (l.take k).all (Mo.okR base) = true ∧ Mo.apart (l.take k)

theorem Mo.okR_eq (base : ByteArray) (x : Mo.Rt) : Mo.okR base x = (Mo.rateOk x && !decide (x.cur = base)) := by
  unfold Mo.okR Mo.rateOk Mo.facOk
  cases Mo.ident x.cur.data.toList <;> cases Mo.dayOk x.day <;> cases decide (x.cur = base) <;> simp
theorem Mo.bad_at {l : List Mo.Rt} {base : ByteArray} {k : Nat} (hk : k < l.length) (h : Mo.okR base l[k] = false) : Mo.valid l base = false := by
  cases hv : Mo.valid l base with
  | false => rfl
  | true =>
    simp only [Mo.valid, Bool.and_eq_true, decide_eq_true_eq] at hv
    rw [List.all_eq_true.1 hv.2.2.1 _ (List.getElem_mem hk)] at h
    cases h
theorem Mo.take_snoc (l : List Mo.Rt) (k : Nat) (hk : k < l.length) : l.take (k + 1) = l.take k ++ [l[k]] := by
  rw [List.take_succ_eq_append_getElem hk]
theorem Mo.Pre.step {l : List Mo.Rt} {base : ByteArray} {k : Nat} (h : Mo.Pre l base k) (hk : k < l.length) (h1 : Mo.okR base l[k] = true) (h2 : Mo.hasB (Mo.base base :: l.take k) l[k].cur l[k].day = false) : Mo.Pre l base (k + 1) := by
  refine ⟨?_, ?_⟩
  · rw [Mo.take_snoc l k hk, List.all_append, h.1]
    simp [h1]
  · rw [Mo.take_snoc l k hk]
    refine List.pairwise_append.2 ⟨h.2, by simp, fun x hx y hy hc => ?_⟩
    simp only [List.mem_singleton] at hy
    subst hy
    have : Mo.hasB (Mo.base base :: l.take k) l[k].cur l[k].day = true := (Mo.hasB_iff _ _ _).2 ⟨x, by simp [hx], hc.1, hc.2⟩
    rw [h2] at this
    cases this
theorem Mo.twice {l : List Mo.Rt} {base : ByteArray} {k : Nat} (hk : k < l.length) (h1 : Mo.okR base l[k] = true) (h2 : Mo.hasB (Mo.base base :: l.take k) l[k].cur l[k].day = true) : Mo.valid l base = false := by
  cases hv : Mo.valid l base with
  | false => rfl
  | true =>
    simp only [Mo.valid, Bool.and_eq_true, decide_eq_true_eq] at hv
    obtain ⟨x, hx, h3, h4⟩ := (Mo.hasB_iff _ _ _).1 h2
    rcases List.mem_cons.1 hx with rfl | hx
    · rw [Mo.okR_eq] at h1
      simp only [Bool.and_eq_true, Bool.not_eq_true', decide_eq_false_iff_not] at h1
      exact absurd h3.symm h1.2
    · obtain ⟨i, hi, rfl⟩ := List.getElem_of_mem hx
      rw [List.length_take] at hi
      rw [List.getElem_take] at h3 h4
      exact absurd ⟨h3, h4⟩ (List.pairwise_iff_getElem.1 hv.2.2.2 i k (by omega) hk (by omega))
theorem Mo.Pre.done {l : List Mo.Rt} {base : ByteArray} {k : Nat} (h : Mo.Pre l base k) (hk : ¬ k < l.length) (hi : Mo.ident base.data.toList = true) (hl : l.length ≤ 400) : Mo.valid l base = true := by
  have e : l.take k = l := List.take_of_length_le (by omega)
  rw [Mo.Pre, e] at h
  simp only [Mo.valid, Bool.and_eq_true, decide_eq_true_eq]
  exact ⟨hi, hl, h.1, h.2⟩
theorem Mo.take_done {l : List Mo.Rt} {k : Nat} (hk : ¬ k < l.length) : l.take k = l := List.take_of_length_le (by omega)
theorem Mo.ident_size {l : List UInt8} (h : Mo.ident l = true) : l.length ≤ 24 := by
  cases l with
  | nil => simp
  | cons c r =>
    simp only [Mo.ident, Bool.and_eq_true, decide_eq_true_eq] at h
    simp only [List.length_cons]
    omega
theorem Mo.base_good {base : ByteArray} (h : base.size ≤ maxLen) : (Mo.base base).Good := ⟨h, rfl⟩

set_option maxHeartbeats 4000000 in
theorem Mo.table_any (A : Option Addr) (c : Nat) (l : List Mo.Rt) (base : ByteArray) (w : World) (hl : Mo.Rts w w.heap.size A l) (hg : Mo.AllGood l) (hbs : base.size ≤ maxLen) (hlen : l.length ≤ maxLen) :
    Calls Tryz.prog 34 #[.slice A l.length c, .string base] w (Mo.TabP l base w) := by
  unfold maxLen at hlen
  have CB := Lib.hid (fun v => Mo.cur_any base hbs v)
  cases hi : Mo.ident base.data.toList with
  | false =>
    have hv : Hid (Mo.valid l base = false) := Lib.hid (by simp [Mo.valid, hi])
    rw [hi] at CB
    clear hi hl hg
    go_enter Tryz.func34, Tryz.ntmps34
    go_wp2_with (first | (go_at_call 65; with_reducible refine (CB.out _).mono ?_; rintro e w1 ⟨rfl, rfl⟩))
    go_ret2
    exact ⟨Below.refl _ _, .inl ⟨hv.out, rfl⟩⟩
  | true =>
  rw [hi] at CB
  by_cases h4 : 400 < l.length
  · have hv : Hid (Mo.valid l base = false) := Lib.hid (by simp [Mo.valid]; omega)
    have h4i : (400 : Int) < (l.length : Int) := by omega
    clear hi hl hg
    go_enter Tryz.func34, Tryz.ntmps34
    go_wp2_with (first | (go_at_call 65; with_reducible refine (CB.out _).mono ?_; rintro e w1 ⟨rfl, rfl⟩))
    go_ret2
    exact ⟨Below.refl _ _, .inl ⟨hv.out, rfl⟩⟩
  have HI : Hid (Mo.ident base.data.toList = true) := Lib.hid hi
  have HL : Hid (Mo.Rts w w.heap.size A l) := Lib.hid hl
  have HG : Hid (Mo.AllGood l) := Lib.hid hg
  have h4i : ¬ (400 : Int) < (l.length : Int) := by omega
  have hmm := @run_makeMap Tryz.prog
  have TM := Lib.hid (Mo.made w)
  have HN : Hid (Mo.AllGood []) := Lib.hid (fun x h => by cases h)
  clear hi hl hg hlen
  go_enter Tryz.func34, Tryz.ntmps34
  go_wp2_with (first | (go_at_call 65; with_reducible refine (CB.out _).mono ?_; rintro e w1 ⟨rfl, rfl⟩) | (with_reducible refine Mo.wp_insert _ rfl _ _ _ rfl w.heap.size [] rfl TM.out HN.out (Mo.base base) rfl rfl (Mo.base_good hbs) rfl ?_; intro w1 hT1 hg1 hs1))
  have HB1 : Hid (Below w.heap.size w w1) := Lib.hid ((Mo.al w _).grown hg1 (by simp) (fun k hk => by cases hk; exact Nat.le_refl _))
  have HS1 : Hid (w1.heap.size = w.heap.size + 1) := Lib.hid (by simpa using hs1)
  have HT1 : Hid (Mo.Tab w1 w.heap.size (Mo.base base :: l.take 0)) := Lib.hid hT1
  clear hT1 hg1 hs1 TM HN CB
  go_loopw [28] (fun i wr => ∃ k : Nat, k ≤ l.length ∧ i = .int .i64 (k : Int) ∧ Hid (Below w.heap.size w wr) ∧ Hid (w.heap.size < wr.heap.size) ∧ Hid (Mo.Tab wr w.heap.size (Mo.base base :: l.take k)) ∧ Hid (Mo.Pre l base k)) (fun i _ => l.length - (intOf i).toNat)
  case atStart => exact ⟨0, Nat.zero_le _, rfl, HB1, Lib.hid (by have := HS1.out; omega), HT1, Lib.hid ⟨rfl, List.Pairwise.nil⟩⟩
  case round =>
    clear HB1 HS1 HT1
    obtain ⟨k, hk, rfl, HB, HS, HT, HP⟩ := hrel
    by_cases hlt : k < l.length
    · have hlti : (k : Int) < (l.length : Int) := by omega
      obtain ⟨ad, rfl, c0, c1, c2, c3⟩ := (HL.out.below HB.out (Nat.le_refl _)).at hlt
      have HGx : Hid ((l[k]).Good) := Lib.hid (HG.out _ (List.getElem_mem hlt))
      have HTS : Hid (l.take (k + 1) = l.take k ++ [l[k]]) := Lib.hid (Mo.take_snoc l k hlt)
      have HST : Hid (Mo.okR base l[k] = true → Mo.hasB (Mo.base base :: l.take k) l[k].cur l[k].day = false → Mo.Pre l base (k + 1)) := Lib.hid (fun h1 h2 => HP.out.step hlt h1 h2)
      have HBD : Hid (Mo.okR base l[k] = false → Mo.valid l base = false) := Lib.hid (fun h => Mo.bad_at hlt h)
      have HTW : Hid (Mo.okR base l[k] = true → Mo.hasB (Mo.base base :: l.take k) l[k].cur l[k].day = true → Mo.valid l base = false) := Lib.hid (fun h1 h2 => Mo.twice hlt h1 h2)
      have HOK : Hid (Mo.okR base l[k] = (Mo.rateOk l[k] && !decide (l[k].cur = base))) := Lib.hid (Mo.okR_eq base l[k])
      have CR : Hid (∀ v, Calls Tryz.prog 66 #[.agg #[.string (l[k]).cur, .int .i64 (l[k]).day, .int .i64 (l[k]).num, .int .i64 (l[k]).den]] v fun e w' => e = .returned (.bool (Mo.rateOk l[k])) ∧ Below v.heap.size v w') := Lib.hid (fun v => Mo.rate_any l[k] HGx.out.cur v)
      have HAG : Hid (Mo.AllGood (Mo.base base :: l.take k)) := Lib.hid (fun x hx => by
        rcases List.mem_cons.1 hx with rfl | hx
        · exact Mo.base_good hbs
        · exact HG.out x (List.mem_of_mem_take hx))
      generalize l[k] = x at *
      obtain ⟨hb, hhb⟩ : ∃ hb, hb = Mo.hasB (Mo.base base :: l.take k) x.cur x.day := ⟨_, rfl⟩
      rw [← hhb] at HST HTW
      have HHB : Hid (Mo.hasB (Mo.base base :: l.take k) x.cur x.day = hb) := Lib.hid hhb.symm
      clear hhb
      generalize Mo.okR base x = okx at *
      generalize Mo.rateOk x = rk at *
      have BX := Lib.hid (Bk.new wr 27 #[.string x.cur, .int .i64 x.day, .int .i64 x.num, .int .i64 x.den])
      have HB2 := Lib.hid (Mo.al wr (.cells #[.string x.cur, .int .i64 x.day, .int .i64 x.num, .int .i64 x.den] 27))
      cases rk with
      | false =>
        have hv : Hid (Mo.valid l base = false) := Lib.hid (HBD.out (by rw [HOK.out]; rfl))
        clear HBD HTW HOK HST
        go_wp2_with (first | (go_at_call 66; with_reducible refine (CR.out _).mono ?_; rintro e w2 ⟨rfl, hb2⟩))
        go_ret2
        exact ⟨HB.out.trans ((Mo.Nb HB2.out hb2).mono (by have := HS.out; omega)), .inl ⟨hv.out, rfl⟩⟩
      | true =>
        by_cases hcb : x.cur = base
        · have hv : Hid (Mo.valid l base = false) := Lib.hid (HBD.out (by rw [HOK.out, decide_eq_true hcb]; rfl))
          have hbq : (x.cur.toList == base.toList) = true := by rw [hcb]; simp
          clear HBD HTW HOK HST hcb
          go_wp2_with fail
          refine (CR.out _).mono ?_
          rintro e w2 ⟨rfl, hb2⟩
          have hx := (BX.out.bt hb2).cell 0 _ rfl
          go_wp2
          go_ret2
          exact ⟨HB.out.trans ((Mo.Nb HB2.out hb2).mono (by have := HS.out; omega)), .inl ⟨hv.out, rfl⟩⟩
        · have hbq : (x.cur.toList == base.toList) = false := bytes_ne hcb
          have HOK1 : Hid (okx = true) := Lib.hid (by rw [HOK.out, decide_eq_false hcb]; rfl)
          clear HBD HOK hcb
          go_wp2_with fail
          refine (CR.out _).mono ?_
          rintro e w2 ⟨rfl, hb2⟩
          have hx0 := (BX.out.bt hb2).cell 0 _ rfl
          have hx1 := (BX.out.bt hb2).cell 1 _ rfl
          have hx2 := (BX.out.bt hb2).cell 2 _ rfl
          have hx3 := (BX.out.bt hb2).cell 3 _ rfl
          have HT2 : Hid (∀ o, Mo.Tab (w2.alloc o) w.heap.size (Mo.base base :: l.take k)) := Lib.hid (fun o => ((HT.out.bt HB2.out).bt hb2).bt (Mo.al _ o))
          have HS2 : Hid (wr.heap.size < w2.heap.size) := Lib.hid (by have := hb2.size; simp at this; omega)
          have HBw : Hid (Below w.heap.size w w2) := Lib.hid (HB.out.trans ((Mo.Nb HB2.out hb2).mono (by have := HS.out; omega)))
          clear HT BX HB2 hb2 HB
          cases hb with
          | true =>
            have hv : Hid (Mo.valid l base = false) := Lib.hid (HTW.out HOK1.out rfl)
            clear HTW HST HOK1
            go_wp2_with (with_reducible refine Mo.wp_look _ rfl _ _ rfl w.heap.size _ rfl (HT2.out _) HAG.out x.cur x.day rfl HGx.out.cur HGx.out.day ?_; rw [HHB.out]; intro y0 y1 y2 y3)
            go_ret2
            exact ⟨((HBw.out.alloc (by have := HS.out; have := HS2.out; omega) _).alloc (by have := HS.out; have := HS2.out; simp; omega) _), .inl ⟨hv.out, rfl⟩⟩
          | false =>
            have HP2 : Hid (Mo.Pre l base (k + 1)) := Lib.hid (HST.out HOK1.out rfl)
            clear HTW HST HOK1
            have hs2 := HS2.out
            have hs3 : wr.heap.size < w2.heap.size + 1 := by omega
            go_wp2_with (first | (with_reducible refine Mo.wp_look _ rfl _ _ rfl w.heap.size _ rfl (HT2.out _) HAG.out x.cur x.day rfl HGx.out.cur HGx.out.day ?_; rw [HHB.out]; intro y0 y1 y2 y3) | (with_reducible refine Mo.wp_store _ rfl _ _ _ rfl w.heap.size _ rfl ((HT2.out _).bt (Mo.al _ _)) HAG.out x rfl rfl HGx.out HHB.out ?_; intro w3 hT3 hg3 hs3))
            have HB3 : Hid (Below w.heap.size w w3) := Lib.hid (((HBw.out.alloc (by have := HS.out; omega) _).alloc (by have := HS.out; simp; omega) _).grown hg3 (by have := HS.out; simp; omega) (fun k hk => by cases hk; exact Nat.le_refl _))
            have HS3 : Hid (w.heap.size < w3.heap.size) := Lib.hid (by have := HS.out; simp at hs3; omega)
            have HT3 : Hid (Mo.Tab w3 w.heap.size (Mo.base base :: l.take (k + 1))) := Lib.hid (by rw [HTS.out]; exact hT3)
            clear hT3 hg3 hs3
            go_wp2
            go_roundw
            case rel => exact ⟨k + 1, by omega, by go_num, HB3, HS3, HT3, HP2⟩
            case measure => simp [intOf]; omega
    · have hv : Hid (Mo.valid l base = true) := Lib.hid (HP.out.done hlt HI.out (by omega))
      have HT2 : Hid (Mo.Tab wr w.heap.size (Mo.base base :: l)) := Lib.hid (by rw [← Mo.take_done hlt]; exact HT.out)
      have hlti : ¬ (k : Int) < (l.length : Int) := by omega
      clear HT HP
      go_wp2
      go_ret2
      exact ⟨HB.out, .inr ⟨hv.out, rfl, HT2.out⟩⟩
end Go.Proofs.YtkbncdcphohmiaaGreatDoor
