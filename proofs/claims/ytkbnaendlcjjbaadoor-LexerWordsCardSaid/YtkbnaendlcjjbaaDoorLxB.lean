/- Layer 7: the program's scanner: has, skip, find, skipGaps. -/
import Derived.Test.YtkbnaendlcjjbaaDoorLxA
import Derived.BigQuiet
set_option linter.unusedSimpArgs false
set_option linter.unusedVariables false
namespace Go.Proofs.YtkbnaendlcjjbaaDoor
open Go.RowKit
set_option maxRecDepth 100000

/-- The scanner at block b, below block B: its text, and the classes of all bytes. -/
def Sc (w : World) (B : Nat) (b : Nat) (t : ByteArray) : Prop := b < B ∧ w.heap[b]? = some (.cells (#[Value.string t] ++ Lx.cv Lx.tabC) 45 (0, 0))
theorem Sc.bt {w w' : World} {b : Nat} {t : ByteArray} (h : Sc w w.heap.size b t) (hb : Below w.heap.size w w') : Sc w' w'.heap.size b t :=
  ⟨Nat.lt_of_lt_of_le h.1 hb.size, (hb.block b h.1).trans h.2⟩
theorem Sc.text {w : World} {B b : Nat} {t : ByteArray} (h : Sc w B b t) : w.cell? ⟨b, 0, none⟩ = some (.string t) := by
  simp only [World.cell?, h.2]
  rw [Array.getElem?_append_left (by simp)]
  rfl
theorem Lx.cv_at (t : ByteArray) (c : Nat) (h : c < 256) : (#[Value.string t] ++ Lx.cv Lx.tabC)[1 + c]? = some (.int .u8 ((Lx.cls c : Nat) : Int)) := by
  rw [Array.getElem?_append_right (by simp)]
  simp [Lx.cv, Lx.tabC, h]
theorem Sc.cls {w : World} {B b : Nat} {t : ByteArray} (h : Sc w B b t) (c : Nat) (hc : c < 256) : w.cell? ⟨b, 1 + c, none⟩ = some (.int .u8 ((Lx.cls c : Nat) : Int)) := by
  simp only [World.cell?, h.2]
  exact Lx.cv_at t c hc
theorem Lx.cls_lt (c : Nat) : Lx.cls c < 256 := by
  unfold Lx.cls
  iterate 11 (split; omega)
  omega

def Lx.hasF (t : List UInt8) (at' : Nat) (cl : List Nat) : Bool := match t[at']? with
  | some c => cl.contains (Lx.cls c.toNat)
  | none => false

theorem Lx.drewN_below (w : World) (n : Nat) : Below w.heap.size w (w.drewN n) := ⟨rfl, rfl, rfl, Nat.le_refl _, fun _ _ => rfl⟩
theorem Lx.has_out (b : Nat) (t : ByteArray) (k n : Nat) (ad : Addr) (cl : List Nat) (w : World) (hs : Sc w w.heap.size b t) (hk : t.size ≤ k) (hm : k ≤ maxLen) :
    Calls Tryd.prog 30 #[.pointer (some ⟨b, 0, none⟩), .int .i64 (k : Int), .slice (some ad) n n] w fun e w' => e = .returned (.bool false) ∧ Below w.heap.size w w' := by
  have ht := hs.text
  have hd : decide ((k : Int) < (t.size : Int)) = false := decide_eq_false (by omega)
  have hd2 : ¬ k < t.size := by omega
  have hd3 : decide (k < t.size) = false := decide_eq_false (by omega)
  unfold maxLen at hm
  clear hs
  go_enter Tryd.func30, Tryd.ntmps30
  go_wp2
  go_quiet (fail)
  go_wp2
  go_ret
  exact ⟨rfl, Lx.drewN_below w nq⟩
theorem Lx.has_in (b : Nat) (t : ByteArray) (k n : Nat) (ad : Addr) (cl : List Nat) (w : World) (hs : Sc w w.heap.size b t) (hk : k < t.size) (hm : t.size ≤ maxLen)
    (hn : n = cl.length) (hl : n ≤ 100) (hcl : ∀ x ∈ cl, x < 256) (h : Cs w w.heap.size ad cl) (x : UInt8) (hx : t[k]'hk = x) :
    Calls Tryd.prog 30 #[.pointer (some ⟨b, 0, none⟩), .int .i64 (k : Int), .slice (some ad) n n] w fun e w' => e = .returned (.bool (cl.contains (Lx.cls x.toNat))) ∧ Below w.heap.size w w' := by
  have ht := hs.text
  have hc := hs.cls x.toNat (by have := UInt8.toNat_lt x; omega)
  have hd : decide ((k : Int) < (t.size : Int)) = true := decide_eq_true (by omega)
  have hd2 : (k : Int) < (t.size : Int) := by omega
  have hd3 : decide (k < t.size) = true := decide_eq_true (by omega)
  have hx256 : (x.toNat : Int) < 256 := by have := UInt8.toNat_lt x; omega
  have hx0 : (0 : Int) ≤ (x.toNat : Int) := by omega
  have HC := Lib.hid (fun v (hb : Below w.heap.size w v) => Lx.contains_any ad n cl (Lx.cls x.toNat) v hn hl (Lx.cls_lt _) hcl (h.bt hb))
  unfold maxLen at hm
  generalize cl.contains (Lx.cls x.toNat) = r at *
  generalize Lx.cls x.toNat = y at *
  clear hs h hcl hn
  go_enter Tryd.func30, Tryd.ntmps30
  go_wp2
  go_quiet ((go_at_call 38; exact (HC.out _ (Lx.drewN_below w _)).mono fun _ _ h => ⟨h.1, _, h.2.symm⟩))
  go_wp2
  go_ret
  exact ⟨rfl, Lx.drewN_below w nq⟩
/-- One of some classes. -/
def Lx.inC (cl : List Nat) (c : UInt8) : Bool := cl.contains (Lx.cls c.toNat)
def Lx.notC (cl : List Nat) (c : UInt8) : Bool := !Lx.inC cl c
theorem Lx.has_any (b : Nat) (t : ByteArray) (k n : Nat) (ad : Addr) (cl : List Nat) (w : World) (hs : Sc w w.heap.size b t) (hk : k ≤ maxLen) (hm : t.size ≤ maxLen)
    (hn : n = cl.length) (hl : n ≤ 100) (hcl : ∀ x ∈ cl, x < 256) (h : Cs w w.heap.size ad cl) :
    Calls Tryd.prog 30 #[.pointer (some ⟨b, 0, none⟩), .int .i64 (k : Int), .slice (some ad) n n] w fun e w' => e = .returned (.bool (Lx.hd (Lx.inC cl) (t.data.toList.drop k))) ∧ Below w.heap.size w w' := by
  by_cases hlt : k < t.size
  · have hx := Lib.data_getElem? t k hlt
    have e : Lx.hd (Lx.inC cl) (t.data.toList.drop k) = cl.contains (Lx.cls (t[k]'hlt).toNat) := by
      cases hd : t.data.toList.drop k with
      | nil =>
        have := List.drop_eq_nil_iff.1 hd
        simp at this
        omega
      | cons c r =>
        have h0 : t.data.toList[k]? = some c := by
          have := congrArg (·[0]?) hd
          simpa using this
        rw [hx] at h0
        rw [Option.some.inj h0]
        rfl
    rw [e]
    exact Lx.has_in b t k n ad cl w hs hlt hm hn hl hcl h _ rfl
  · rw [List.drop_eq_nil_of_le (by simp; omega)]
    exact Lx.has_out b t k n ad cl w hs (by omega) hk
theorem Lx.hd_true {p : UInt8 → Bool} {l : List UInt8} {j : Nat} (h : Lx.hd p (l.drop j) = true) : j < l.length ∧ Lx.span p (l.drop j) = 1 + Lx.span p (l.drop (j + 1)) := by
  cases hd : l.drop j with
  | nil => rw [hd] at h; simp [Lx.hd] at h
  | cons c r =>
    rw [hd] at h
    have h : p c = true := h
    refine ⟨?_, ?_⟩
    · have := congrArg List.length hd
      simp at this
      omega
    · have e : l.drop (j + 1) = r := by rw [← List.drop_drop, hd]; rfl
      rw [e]
      simp [Lx.span, h]
      omega
theorem Lx.hd_false {p : UInt8 → Bool} {l : List UInt8} (h : Lx.hd p l = false) : Lx.span p l = 0 := by
  cases l with
  | nil => rfl
  | cons c r =>
    have h : p c = false := h
    simp [Lx.span, h]

set_option maxHeartbeats 1000000 in
theorem Lx.skip_any (b : Nat) (t : ByteArray) (k n : Nat) (ad : Addr) (cl : List Nat) (w : World) (hs : Sc w w.heap.size b t) (hk : k ≤ t.size) (hm : t.size < 2 ^ 40)
    (hn : n = cl.length) (hl : n ≤ 100) (hcl : ∀ x ∈ cl, x < 256) (h : Cs w w.heap.size ad cl) (r : Nat) (hr : r = k + Lx.span (Lx.inC cl) (t.data.toList.drop k)) :
    Calls Tryd.prog 29 #[.pointer (some ⟨b, 0, none⟩), .int .i64 (k : Int), .slice (some ad) n n] w fun e w' => e = .returned (.int .i64 (r : Int)) ∧ Below w.heap.size w w' := by
  have HH := Lib.hid (fun (v : World) (j : Nat) (hj : j ≤ t.size) (hb : Below w.heap.size w v) => Lx.has_any b t j n ad cl v (hs.bt hb) (by unfold maxLen; omega) (by unfold maxLen; omega) hn hl hcl (h.bt hb))
  have HR := Lib.hid hr
  have hle : t.size = t.data.toList.length := by simp
  have HL := Lib.hid hle
  clear hs hn hcl h hr hle
  go_enter Tryd.func29, Tryd.ntmps29
  go_wp2
  go_loopw [1] (fun i wr => ∃ j : Nat, j ≤ t.size ∧ i = .int .i64 (j : Int) ∧ Hid (r = j + Lx.span (Lx.inC cl) (t.data.toList.drop j)) ∧ Below w.heap.size w wr) (fun i _ => t.size - (intOf i).toNat)
  case atStart => exact ⟨k, hk, rfl, HR, Below.refl _ _⟩
  case round =>
    obtain ⟨j, hj, rfl, hq, hb⟩ := hrel
    have C := Lib.hid (HH.out wr j hj hb)
    cases hd : Lx.hd (Lx.inC cl) (t.data.toList.drop j)
    · have hz := Lx.hd_false hd
      have HE : Hid (j = r) := Lib.hid (by rw [hq.out, hz]; omega)
      rw [hd] at C
      clear hq hz hd HR HH
      go_wp2_with fail
      refine C.out.mono ?_
      rintro e w1 ⟨rfl, hb1⟩
      go_wp2_with fail
      go_ret
      exact ⟨by have hee := HE.out; subst hee; rfl, Lx.Nb hb hb1⟩
    · have hz := Lx.hd_true hd
      have hjl : j < t.size := by rw [HL.out]; exact hz.1
      have HE : Hid (r = (j + 1) + Lx.span (Lx.inC cl) (t.data.toList.drop (j + 1))) := Lib.hid (by rw [hq.out, hz.2]; omega)
      rw [hd] at C
      clear hq hz hd HR HH
      go_wp2_with fail
      refine C.out.mono ?_
      rintro e w1 ⟨rfl, hb1⟩
      go_wp2_with fail
      exact ⟨⟨j + 1, by omega, by go_num, HE, Lx.Nb hb hb1⟩, by simp [intOf]; omega⟩
set_option maxHeartbeats 1000000 in
theorem Lx.find_any (b : Nat) (t : ByteArray) (k n : Nat) (ad : Addr) (cl : List Nat) (w : World) (hs : Sc w w.heap.size b t) (hk : k ≤ t.size) (hm : t.size < 2 ^ 40)
    (hn : n = cl.length) (hl : n ≤ 100) (hcl : ∀ x ∈ cl, x < 256) (h : Cs w w.heap.size ad cl) (r : Nat) (hr : r = k + Lx.span (Lx.notC cl) (t.data.toList.drop k)) :
    Calls Tryd.prog 31 #[.pointer (some ⟨b, 0, none⟩), .int .i64 (k : Int), .slice (some ad) n n] w fun e w' => e = .returned (.int .i64 (r : Int)) ∧ Below w.heap.size w w' := by
  have HH := Lib.hid (fun (v : World) (j : Nat) (hj : j ≤ t.size) (hb : Below w.heap.size w v) => Lx.has_any b t j n ad cl v (hs.bt hb) (by unfold maxLen; omega) (by unfold maxLen; omega) hn hl hcl (h.bt hb))
  have HT := Lib.hid (fun (v : World) (hb : Below w.heap.size w v) => (hs.bt hb).text)
  have HR := Lib.hid hr
  have hle : t.size = t.data.toList.length := by simp
  have HL := Lib.hid hle
  clear hs hn hcl h hr hle
  go_enter Tryd.func31, Tryd.ntmps31
  go_wp2
  go_loopw [1] (fun i wr => ∃ j : Nat, j ≤ t.size ∧ i = .int .i64 (j : Int) ∧ Hid (r = j + Lx.span (Lx.notC cl) (t.data.toList.drop j)) ∧ Below w.heap.size w wr) (fun i _ => t.size - (intOf i).toNat)
  case atStart => exact ⟨k, hk, rfl, HR, Below.refl _ _⟩
  case round =>
    obtain ⟨j, hj, rfl, hq, hb⟩ := hrel
    have C := Lib.hid (HH.out wr j hj hb)
    have ht := HT.out wr hb
    by_cases hlt : j < t.size
    · have hlt' : (j : Int) < (t.size : Int) := by omega
      cases hd : Lx.hd (Lx.inC cl) (t.data.toList.drop j)
      · have hd' : Lx.hd (Lx.notC cl) (t.data.toList.drop j) = true := by
          have hne : t.data.toList.drop j ≠ [] := fun e => by
            have := List.drop_eq_nil_iff.1 e
            have := HL.out
            omega
          cases hx : t.data.toList.drop j with
          | nil => exact absurd hx hne
          | cons c l =>
            rw [hx] at hd
            show (!Lx.inC cl c) = true
            rw [show Lx.inC cl c = false from hd]
            rfl
        have hz := Lx.hd_true hd'
        have HE : Hid (r = (j + 1) + Lx.span (Lx.notC cl) (t.data.toList.drop (j + 1))) := Lib.hid (by rw [hq.out, hz.2]; omega)
        rw [hd] at C
        clear hq hz hd hd' HR HH
        go_wp2_with fail
        refine C.out.mono ?_
        rintro e w1 ⟨rfl, hb1⟩
        go_wp2_with fail
        exact ⟨⟨j + 1, by omega, by go_num, HE, Lx.Nb hb hb1⟩, by simp [intOf]; omega⟩
      · have hd' : Lx.hd (Lx.notC cl) (t.data.toList.drop j) = false := by
          cases hx : t.data.toList.drop j with
          | nil => rfl
          | cons c l =>
            rw [hx] at hd
            show (!Lx.inC cl c) = false
            rw [show Lx.inC cl c = true from hd]
            rfl
        have hz := Lx.hd_false hd'
        have HE : Hid (j = r) := Lib.hid (by rw [hq.out, hz]; omega)
        rw [hd] at C
        clear hq hz hd hd' HR HH
        go_wp2_with fail
        refine C.out.mono ?_
        rintro e w1 ⟨rfl, hb1⟩
        go_wp2_with fail
        go_ret
        exact ⟨by have hee := HE.out; subst hee; rfl, Lx.Nb hb hb1⟩
    · have hz : Lx.span (Lx.notC cl) (t.data.toList.drop j) = 0 := by
        rw [List.drop_eq_nil_of_le (by have := HL.out; omega)]
        rfl
      have HE : Hid (j = r) := Lib.hid (by rw [hq.out, hz]; omega)
      have hlt' : ¬ (j : Int) < (t.size : Int) := by omega
      clear hq hz HR HH C
      go_wp2_with fail
      go_ret
      exact ⟨by have hee := HE.out; subst hee; rfl, hb⟩
/-! ### gaps -/
theorem Lx.in_blank (c : UInt8) : Lx.inC [1, 2] c = Lx.isBl c := by
  have : ∀ n : Fin 256, [1, 2].contains (Lx.cls n.val) = (n.val == 32 || n.val == 9 || n.val == 10) := by decide +kernel
  exact this ⟨c.toNat, UInt8.toNat_lt c⟩
def Lx.isHash (c : UInt8) : Bool := c.toNat == 35
theorem Lx.in_hash (c : UInt8) : Lx.inC [3] c = Lx.isHash c := by
  have : ∀ n : Fin 256, [3].contains (Lx.cls n.val) = (n.val == 35) := by decide +kernel
  exact this ⟨c.toNat, UInt8.toNat_lt c⟩
def Lx.notLf (c : UInt8) : Bool := !(c.toNat == 10)
theorem Lx.not_lf (c : UInt8) : Lx.notC [2] c = Lx.notLf c := by
  have : ∀ n : Fin 256, (![2].contains (Lx.cls n.val)) = !(n.val == 10) := by decide +kernel
  exact this ⟨c.toNat, UInt8.toNat_lt c⟩
theorem Lx.gap_bl : ∀ l : List UInt8, Lx.gapN false l = Lx.span Lx.isBl l + Lx.gapN false (l.drop (Lx.span Lx.isBl l))
  | [] => rfl
  | c :: l => by
    by_cases h : Lx.isBl c = true
    · have := Lx.gap_bl l
      simp only [Lx.gapN, Lx.span]
      rw [if_pos h, if_pos h, List.drop_succ_cons]
      omega
    · simp only [Lx.span]
      rw [if_neg h]
      simp
theorem Lx.gap_com : ∀ l : List UInt8, Lx.gapN true l = Lx.span Lx.notLf l + Lx.gapN false (l.drop (Lx.span Lx.notLf l))
  | [] => rfl
  | c :: l => by
    by_cases h : (c.toNat == 10) = true
    · have hn : Lx.notLf c = false := by simp [Lx.notLf, h]
      have hb : Lx.isBl c = true := by simp [Lx.isBl, h]
      simp only [Lx.span]
      rw [hn]
      simp [Lx.gapN, h, hb]
    · have hn : Lx.notLf c = true := by simpa [Lx.notLf] using h
      have := Lx.gap_com l
      simp only [Lx.gapN, Lx.span]
      rw [if_neg h, if_pos hn, List.drop_succ_cons]
      omega
theorem Lx.gap_hash {l : List UInt8} (h : Lx.hd Lx.isHash l = true) : Lx.gapN false l = Lx.span Lx.notLf l + Lx.gapN false (l.drop (Lx.span Lx.notLf l)) := by
  cases l with
  | nil => simp [Lx.hd] at h
  | cons c l =>
    have h : (c.toNat == 35) = true := h
    have hb : Lx.isBl c = false := by
      simp at h
      simp [Lx.isBl, h]
    have hn : Lx.notLf c = true := by
      simp at h
      simp [Lx.notLf, h]
    have := Lx.gap_com l
    simp only [Lx.gapN, Lx.span]
    rw [hb, if_neg (by simp), if_pos h, if_pos hn, List.drop_succ_cons]
    omega
theorem Lx.gap_none {l : List UInt8} (h : Lx.hd Lx.isHash l = false) (hb : Lx.hd Lx.isBl l = false) : Lx.gapN false l = 0 := by
  cases l with
  | nil => rfl
  | cons c l =>
    have h : Lx.isHash c = false := h
    have hb : Lx.isBl c = false := hb
    simp only [Lx.isHash] at h
    simp [Lx.gapN, hb, h]
theorem Lx.span_congr {p q : UInt8 → Bool} (h : ∀ c, p c = q c) : ∀ l, Lx.span p l = Lx.span q l
  | [] => rfl
  | c :: l => by simp only [Lx.span]; rw [h c, Lx.span_congr h l]
theorem Lx.hd_congr {p q : UInt8 → Bool} (h : ∀ c, p c = q c) : ∀ l, Lx.hd p l = Lx.hd q l
  | [] => rfl
  | c :: l => h c
/-- A slice of classes that was made last. -/
theorem Cs.new (w : World) (ty : TypeId) (cl : List Nat) : Cs (w.alloc (.cells (Lx.cv cl) ty)) (w.alloc (.cells (Lx.cv cl) ty)).heap.size ⟨w.heap.size, 0, none⟩ cl := by
  refine ⟨by simp, fun k hk => ?_⟩
  have e : (⟨w.heap.size, 0, none⟩ : Addr).add k = ⟨w.heap.size, k, none⟩ := by unfold Addr.add; split <;> simp_all
  have hn : (w.alloc (.cells (Lx.cv cl) ty)).heap[w.heap.size]? = some (.cells (Lx.cv cl) ty (0, 0)) := heap_alloc_new w _
  rw [e]
  simp only [World.cell?, hn]
  exact Lx.cv_get cl k hk
theorem Lx.c1 (x : Nat) : (#[Value.int .u8 (x : Int)] : Array Value) = Lx.cv [x] := rfl

set_option maxHeartbeats 2000000 in
theorem Lx.gaps_any (b : Nat) (t : ByteArray) (k : Nat) (w : World) (hs : Sc w w.heap.size b t) (hk : k ≤ t.size) (hm : t.size < 2 ^ 40) (r : Nat) (hr : r = k + Lx.gapN false (t.data.toList.drop k)) :
    Calls Tryd.prog 23 #[.pointer (some ⟨b, 0, none⟩), .int .i64 (k : Int)] w fun e w' => e = .returned (.int .i64 (r : Int)) ∧ Below w.heap.size w w' := by
  have hle : t.data.toList.length = t.size := by simp
  -- a call of skip with blank and lineFeed
  have S1 := Lib.hid (fun (v : World) (j : Nat) (hj : j ≤ t.size) (hb : Below w.heap.size w v) (q : Nat) (hq : q = j + Lx.span Lx.isBl (t.data.toList.drop j)) =>
    (Lx.skip_any b t j 2 ⟨v.heap.size, 0, none⟩ [1, 2] (v.alloc (.cells #[.int .u8 1, .int .u8 2] 41)) ((hs.bt hb).bt (Lx.al v _)) hj hm rfl (by omega) (by decide) (Cs.new v _ [1, 2]) q (by rw [hq, Lx.span_congr Lx.in_blank])).mono
      fun e u h => (⟨h.1, Lx.Nb (Lx.Nb hb (Lx.al v _)) h.2⟩ : e = .returned (.int .i64 (q : Int)) ∧ Below w.heap.size w u))
  have S2 := Lib.hid (fun (v : World) (j : Nat) (hj : j ≤ t.size) (hb : Below w.heap.size w v) =>
    (Lx.has_any b t j 1 ⟨v.heap.size, 0, none⟩ [3] (v.alloc (.cells #[.int .u8 3] 41)) ((hs.bt hb).bt (Lx.al v _)) (by unfold maxLen; omega) (by unfold maxLen; omega) rfl (by omega) (by decide) (Cs.new v _ [3])).mono
      fun e u h => (⟨h.1.trans (by rw [Lx.hd_congr Lx.in_hash]), Lx.Nb (Lx.Nb hb (Lx.al v _)) h.2⟩ : e = .returned (.bool (Lx.hd Lx.isHash (t.data.toList.drop j))) ∧ Below w.heap.size w u))
  have S3 := Lib.hid (fun (v : World) (j : Nat) (hj : j ≤ t.size) (hb : Below w.heap.size w v) (q : Nat) (hq : q = j + Lx.span Lx.notLf (t.data.toList.drop j)) =>
    (Lx.find_any b t j 1 ⟨v.heap.size, 0, none⟩ [2] (v.alloc (.cells #[.int .u8 2] 41)) ((hs.bt hb).bt (Lx.al v _)) hj hm rfl (by omega) (by decide) (Cs.new v _ [2]) q (by rw [hq, Lx.span_congr Lx.not_lf])).mono
      fun e u h => (⟨h.1, Lx.Nb (Lx.Nb hb (Lx.al v _)) h.2⟩ : e = .returned (.int .i64 (q : Int)) ∧ Below w.heap.size w u))
  have hb0 := Below.refl w.heap.size w
  have hr1 : r = (k + Lx.span Lx.isBl (t.data.toList.drop k)) + Lx.gapN false (t.data.toList.drop (k + Lx.span Lx.isBl (t.data.toList.drop k))) := by
    rw [hr, Lx.gap_bl, List.drop_drop]
    omega
  have hq0 := Lx.span_le Lx.isBl (t.data.toList.drop k)
  have hq1 : Lx.hd Lx.isBl (t.data.toList.drop (k + Lx.span Lx.isBl (t.data.toList.drop k))) = false := by
    rw [← List.drop_drop]
    exact Lx.span_drop _ _
  have C0 := Lib.hid (S1.out w k hk hb0 _ rfl)
  rw [List.length_drop, hle] at hq0
  have hqs : k + Lx.span Lx.isBl (t.data.toList.drop k) ≤ t.size := by omega
  generalize k + Lx.span Lx.isBl (t.data.toList.drop k) = q at *
  have HR := Lib.hid hr1
  have HQ := Lib.hid hq1
  have HLE := Lib.hid hle
  clear hs hr hr1 hq1 hq0 hle
  go_enter Tryd.func23, Tryd.ntmps23
  go_wp2_with fail
  refine C0.out.mono ?_
  rintro e w1 ⟨rfl, hb1⟩
  go_wp2_with fail
  go_loopw [1] (fun i wr => ∃ j : Nat, j ≤ t.size ∧ i = .int .i64 (j : Int) ∧ Hid (r = j + Lx.gapN false (t.data.toList.drop j)) ∧ Hid (Lx.hd Lx.isBl (t.data.toList.drop j) = false) ∧ Below w.heap.size w wr) (fun i _ => t.size - (intOf i).toNat)
  case atStart => exact ⟨q, hqs, rfl, HR, HQ, hb1⟩
  case round =>
    clear C0 HR HQ
    obtain ⟨j, hj, rfl, HR, HQ, hb⟩ := hrel
    have C2 := Lib.hid (S2.out wr j hj hb)
    cases hh : Lx.hd Lx.isHash (t.data.toList.drop j)
    · have HE : Hid (j = r) := Lib.hid (by rw [HR.out, Lx.gap_none hh HQ.out]; omega)
      rw [hh] at C2
      clear S1 S2 S3 hh HR HQ
      go_wp2_with fail
      refine C2.out.mono ?_
      rintro e w2 ⟨rfl, hb2⟩
      go_wp2_with fail
      go_ret
      exact ⟨by have hee := HE.out; subst hee; rfl, hb2⟩
    · have hg := Lx.gap_hash hh
      have hl3 := Lx.span_le Lx.notLf (t.data.toList.drop j)
      have hlt := (Lx.hd_true hh).1
      have hpos : 0 < Lx.span Lx.notLf (t.data.toList.drop j) := by
        cases hx : t.data.toList.drop j with
        | nil => rw [hx] at hh; simp [Lx.hd] at hh
        | cons c l =>
          rw [hx] at hh
          have hh : (c.toNat == 35) = true := hh
          simp at hh
          have : Lx.notLf c = true := by simp [Lx.notLf, hh]
          simp only [Lx.span, this, if_true]
          omega
      rw [List.length_drop, HLE.out] at hl3
      have C3 := Lib.hid (fun v hv => S3.out v j hj hv _ rfl)
      have h3 : j + Lx.span Lx.notLf (t.data.toList.drop j) ≤ t.size := by omega
      have hl4 := Lx.span_le Lx.isBl (t.data.toList.drop (j + Lx.span Lx.notLf (t.data.toList.drop j)))
      have hb4 := Lx.span_drop Lx.isBl (t.data.toList.drop (j + Lx.span Lx.notLf (t.data.toList.drop j)))
      have hg4 := Lx.gap_bl (t.data.toList.drop (j + Lx.span Lx.notLf (t.data.toList.drop j)))
      rw [List.drop_drop] at hg hg4 hb4
      have hR := HR.out
      have hj3 : j < j + Lx.span Lx.notLf (t.data.toList.drop j) := by omega
      rw [hg, ← Nat.add_assoc] at hR
      generalize j + Lx.span Lx.notLf (t.data.toList.drop j) = q3 at *
      have C4 := Lib.hid (fun v hv => S1.out v q3 h3 hv _ rfl)
      rw [List.length_drop, HLE.out] at hl4
      rw [hg4, ← Nat.add_assoc] at hR
      have h4 : q3 + Lx.span Lx.isBl (t.data.toList.drop q3) ≤ t.size := by omega
      have h34 : q3 ≤ q3 + Lx.span Lx.isBl (t.data.toList.drop q3) := by omega
      generalize q3 + Lx.span Lx.isBl (t.data.toList.drop q3) = q4 at *
      have HR' := Lib.hid hR
      have HQ' := Lib.hid hb4
      rw [hh] at C2
      clear S1 S2 S3 hh HR HQ hg hg4 hb4 hR hl4 hl3 hpos
      go_wp2_with fail
      refine C2.out.mono ?_
      rintro e w2 ⟨rfl, hb2⟩
      have C3' := Lib.hid (C3.out w2 hb2)
      clear C3
      go_wp2_with fail
      refine C3'.out.mono ?_
      rintro e w3 ⟨rfl, hb3⟩
      have C4' := Lib.hid (C4.out w3 hb3)
      clear C4
      go_wp2_with fail
      refine C4'.out.mono ?_
      rintro e w4 ⟨rfl, hb4⟩
      go_wp2_with fail
      exact ⟨⟨q4, h4, rfl, HR', HQ', hb4⟩, by simp [intOf]; omega⟩
end Go.Proofs.YtkbnaendlcjjbaaDoor
