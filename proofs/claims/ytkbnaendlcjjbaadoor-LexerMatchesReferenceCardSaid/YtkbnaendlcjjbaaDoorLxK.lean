/- Layer 7: the reference's next: one token. -/
import Derived.Test.YtkbnaendlcjjbaaDoorLxJ
import Derived.Test.YtkbnaendlcjjbaaDoorLxAgW
import Derived.StillTailTactics
import Derived.Deep.DeepCutAuto
set_option linter.unusedSimpArgs false
set_option linter.unusedVariables false
namespace Go.Proofs.YtkbnaendlcjjbaaDoor
open Go.RowKit
set_option maxRecDepth 100000

/-- What the reference's call for a token at offset k returns. -/
def Lx.resN (k : Nat) : Lx.R → Value
  | .err e => .tuple #[.agg #[.int .i64 0, .int .i64 0, .int .i64 0, .string ⟨#[]⟩], .int .i64 e]
  | .ok kd n tx w => .tuple #[.agg #[.int .i64 kd, .int .i64 (k : Int), .int .i64 (n : Int), .string ⟨tx.toArray⟩], .int .i64 0]
def Lx.isAng (c : UInt8) : Bool := c.toNat == 33 || c.toNat == 60 || c.toNat == 62
def Lx.isSym (c : UInt8) : Bool := Lx.isSign c || c.toNat == 60 || c.toNat == 62
theorem Lx.ang_any (c : UInt8) (w : World) : Calls Tryd.prog 36 #[.string ⟨#[33, 60, 62]⟩, .int .u8 (c.toNat : Int)] w fun e w' => e = .returned (.bool (Lx.isAng c)) ∧ w = w' := by
  have e : ([33, 60, 62] : List UInt8).contains c = Lx.isAng c := by
    have : ∀ n : Fin 256, ([33, 60, 62] : List UInt8).contains (UInt8.ofNat n.val) = (n.val == 33 || n.val == 60 || n.val == 62) := by decide +kernel
    have h := this ⟨c.toNat, UInt8.toNat_lt c⟩
    rwa [UInt8.ofNat_toNat] at h
  exact Lx.hasR_any ⟨#[33, 60, 62]⟩ c w (by decide) _ e
theorem Lx.sym_any (c : UInt8) (w : World) : Calls Tryd.prog 36 #[.string ⟨#[59, 44, 46, 58, 40, 41, 91, 93, 123, 125, 61, 60, 62, 43, 45]⟩, .int .u8 (c.toNat : Int)] w fun e w' => e = .returned (.bool (Lx.isSym c)) ∧ w = w' := by
  have e : ([59, 44, 46, 58, 40, 41, 91, 93, 123, 125, 61, 60, 62, 43, 45] : List UInt8).contains c = Lx.isSym c := by
    have : ∀ n : Fin 256, ([59, 44, 46, 58, 40, 41, 91, 93, 123, 125, 61, 60, 62, 43, 45] : List UInt8).contains (UInt8.ofNat n.val) = ([59, 44, 46, 58, 40, 41, 91, 93, 123, 125, 43, 45, 61].contains n.val || n.val == 60 || n.val == 62) := by decide +kernel
    have h := this ⟨c.toNat, UInt8.toNat_lt c⟩
    rwa [UInt8.ofNat_toNat] at h
  exact Lx.hasR_any ⟨#[59, 44, 46, 58, 40, 41, 91, 93, 123, 125, 61, 60, 62, 43, 45]⟩ c w (by decide) _ e
theorem Lx.symF_ref (c : UInt8) (r : List UInt8) : Lx.symF c r = if Lx.isAng c && Lx.hd Lx.isEq r then .ok 4 0 ((c :: r).take 2) 2 else if Lx.isSym c then .ok 4 0 [c] 1 else .err 3 := by
  unfold Lx.symF Lx.isAng Lx.isSym
  by_cases h33 : (c.toNat == 33) = true
  · have hs : Lx.isSign c = false := by
      simp at h33
      simp [Lx.isSign, h33]
    have h60 : (c.toNat == 60) = false := by simp at h33; simp [h33]
    have h62 : (c.toNat == 62) = false := by simp at h33; simp [h33]
    rw [if_pos h33, h33, hs, h60, h62]
    cases Lx.hd Lx.isEq r <;> simp
  · have h33' : (c.toNat == 33) = false := by simpa using h33
    rw [if_neg h33, h33']
    cases h60 : (c.toNat == 60 || c.toNat == 62)
    · have a : (c.toNat == 60) = false := by simp at h60; simp [h60]
      have b : (c.toNat == 62) = false := by simp at h60; simp [h60]
      rw [a, b]
      simp
    · have hab : (false || c.toNat == 60 || c.toNat == 62) = true := by simpa using h60
      have hac : (Lx.isSign c || c.toNat == 60 || c.toNat == 62) = true := by simp at h60 ⊢; omega
      rw [hab, hac]
      cases Lx.hd Lx.isEq r <;> simp
theorem Lx.results2 {fn : Func} {ty : TypeId} (h : fn.results = #[.cell 4 ty, .tmp 5]) (tmps : Array Value) (w : World) (g : Nat) (t : TypeId) (cs : Array Value) {fs : _}
    (hp : tmps.getD 4 undef = .pointer (some ⟨g, 0, none⟩)) (hg : w.heap[g]? = some (.cells cs t (0, 0)))
    (hu : Tryd.prog.underlying ty = some (.struct fs)) (hi : (Tryd.prog.info? ty).map (·.size) = some cs.size) :
    (results fn tmps).run Tryd.prog w = .ok (.tuple #[.agg cs, tmps.getD 5 undef]) w := by
  have hp' : tmps[4]?.getD undef = .pointer (some ⟨g, 0, none⟩) := by simpa using hp
  simp [results, h, hp', asAddr, run_loadVar_row w g t ty cs (0, 0) (.struct fs) hg hu rfl hi]
theorem Lx.al2 (w : World) (o o' : Obj) : Below w.heap.size w ((w.alloc o).alloc o') := ((Below.refl _ w).alloc (Nat.le_refl _) _).alloc (by simp) _
theorem Lx.drop_end (t : ByteArray) (j : Nat) (h : ¬ j < t.size) : t.data.toList.drop j = [] := List.drop_eq_nil_of_le (by rw [Lx.len]; omega)

theorem Lx.name_facts (x : UInt8) (l : List UInt8) (hx : Lx.isLet x = true) : Lx.tokF (x :: l) = if 24 < Lx.span Lx.isWord l + 1 then .err 2 else .ok 1 0 ((x :: l).take (Lx.span Lx.isWord l + 1)) (Lx.span Lx.isWord l + 1) := by
  have e : Lx.span Lx.isWord (x :: l) = Lx.span Lx.isWord l + 1 := by
    simp only [Lx.span]
    rw [if_pos (Lx.word_of_let hx)]
  simp only [Lx.tokF]
  rw [if_pos hx, e]

set_option maxHeartbeats 2000000 in
theorem Lx.next_let (t : ByteArray) (k : Nat) (w : World) (hk : k < t.size) (hm : t.size < 2 ^ 40) (x : UInt8) (hx : t[k]'hk = x) (hlet : Lx.isLet x = true) :
    Calls Tryd.prog 26 #[.string t, .int .i64 (k : Int)] w fun e w' => e = .returned (Lx.resN k (Lx.tokF (t.data.toList.drop k))) ∧ Below w.heap.size w w' := by
  have hle := Lx.len t
  have HLE := Lib.hid hle
  have hdr := Lx.drop_at t k hk
  rw [hx] at hdr
  have CL := Lib.hid (fun v => Lx.let_any x v)
  rw [hlet] at CL
  have hR := Lx.name_facts x (t.data.toList.drop (k + 1)) hlet
  rw [← hdr] at hR
  have hq := Lx.span_le Lx.isWord (t.data.toList.drop (k + 1))
  rw [List.length_drop, hle] at hq
  have hE := Lx.ext t k (k + 1 + Lx.span Lx.isWord (t.data.toList.drop (k + 1))) (Lx.span Lx.isWord (t.data.toList.drop (k + 1)) + 1) (by omega)
  have HQ : Hid (k + 1 + Lx.span Lx.isWord (t.data.toList.drop (k + 1)) = (k + 1) + Lx.span Lx.isWord (t.data.toList.drop (k + 1))) := Lib.hid rfl
  have hk2 : k + 1 + Lx.span Lx.isWord (t.data.toList.drop (k + 1)) ≤ t.size := by omega
  have h4 : IntKind.i64.wrap (((k + 1 + Lx.span Lx.isWord (t.data.toList.drop (k + 1)) : Nat) : Int) - (k : Int)) = ((Lx.span Lx.isWord (t.data.toList.drop (k + 1)) + 1 : Nat) : Int) := by rw [IntKind.wrap_i64]; omega
  have h5 : IntKind.i64.wrap ((k : Int) + 1) = ((k + 1 : Nat) : Int) := by rw [IntKind.wrap_i64]; omega
  have hkr : k ≤ k + 1 + Lx.span Lx.isWord (t.data.toList.drop (k + 1)) := by omega
  obtain ⟨r, hr⟩ : ∃ r, r = k + 1 + Lx.span Lx.isWord (t.data.toList.drop (k + 1)) := ⟨_, rfl⟩
  rw [← hr] at hE hk2 h4 hkr
  have HR := Lib.hid hr
  clear HQ hr
  generalize Lx.tokF (t.data.toList.drop k) = R at *
  generalize Lx.span Lx.isWord (t.data.toList.drop (k + 1)) + 1 = m at *
  generalize (t.data.toList.drop k).take m = D at *
  have HX := Lib.hid hR
  have HE := Lib.hid hE
  have hk1 : k + 1 ≤ t.size := by omega
  have i0 : (0 : Int) ≤ (k : Int) := by omega
  have i1 : (k : Int) < (t.size : Int) := by omega
  have i2 : (k : Int) ≤ (r : Int) := by omega
  have i3 : (r : Int) ≤ (t.size : Int) := by omega
  generalize hkk : k + 1 = k1 at *
  clear hR hE hdr hlet hle hq hkk hkr
  go_enter Tryd.func26, Tryd.ntmps26
  go_wp2_with fail
  refine (CL.out _).mono ?_
  rintro e w1 ⟨rfl, rfl⟩
  clear CL
  go_wp2_with fail
  go_loop [6] (fun i => ∃ j : Nat, j ≤ t.size ∧ i = .int .i64 (j : Int) ∧ Hid (r = j + Lx.span Lx.isWord (t.data.toList.drop j))) (fun i => t.size - (intOf i).toNat)
  case atStart => exact ⟨k1, hk1, rfl, HR⟩
  case round =>
    clear HR
    obtain ⟨j, hj, rfl, hq⟩ := hrel
    by_cases hlt : j < t.size
    · have hlt' : (j : Int) < (t.size : Int) := by omega
      obtain ⟨y, hy⟩ : ∃ y : UInt8, t[j]'hlt = y := ⟨_, rfl⟩
      have hdr := Lx.drop_at t j hlt
      rw [hy] at hdr
      have CW := Lib.hid (fun v => Lx.word_any y v)
      cases hw : Lx.isWord y
      · rw [hw] at CW
        have hJ : r = j := by rw [hq.out, hdr]; simp [Lx.span, hw]
        clear hw hdr hq
        subst hJ
        go_wp2_with fail
        refine (CW.out _).mono ?_
        rintro e w1 ⟨rfl, rfl⟩
        clear CW
        by_cases h24 : 24 < m
        · have HRR : Hid (R = .err 2) := Lib.hid (by rw [HX.out, if_pos h24])
          have hd : decide ((24 : Int) < (m : Int)) = true := decide_eq_true (by omega)
          clear HX
          go_wp2_with fail
          (try simp only [Exit.inBlock, Exit.then])
          exact bodyPost_ret (Lx.results2 rfl _ _ w.heap.size 30 _ rfl (heap_alloc2_old w _ _) Tryd.underlying30 (Lx.info30.trans rfl)) rfl ⟨by rw [HRR.out]; rfl, Lx.al2 w _ _⟩
        · have HRR : Hid (R = .ok 1 0 D m) := Lib.hid (by rw [HX.out, if_neg h24])
          have hd : decide ((24 : Int) < (m : Int)) = false := decide_eq_false (by omega)
          clear HX
          go_wp2_with fail
          (try simp only [Exit.inBlock, Exit.then])
          exact bodyPost_ret (Lx.results2 rfl _ _ w.heap.size 30 _ rfl (heap_alloc2_old w _ _) Tryd.underlying30 (Lx.info30.trans rfl)) rfl ⟨by rw [HRR.out, HE.out]; rfl, Lx.al2 w _ _⟩
      · rw [hw] at CW
        have hq2 : Hid (r = (j + 1) + Lx.span Lx.isWord (t.data.toList.drop (j + 1))) := Lib.hid (by rw [hq.out, hdr]; simp only [Lx.span]; rw [if_pos hw]; omega)
        clear hw hdr hq
        go_wp2_with fail
        refine (CW.out _).mono ?_
        rintro e w1 ⟨rfl, rfl⟩
        go_wp2_with fail
        exact ⟨⟨j + 1, by omega, by go_num, hq2⟩, by simp [intOf]; omega⟩
    · have hJ : r = j := by rw [hq.out, Lx.drop_end t j hlt]; rfl
      clear hq
      subst hJ
      have hlt' : ¬ (r : Int) < (t.size : Int) := by omega
      by_cases h24 : 24 < m
      · have HRR : Hid (R = .err 2) := Lib.hid (by rw [HX.out, if_pos h24])
        have hd : decide ((24 : Int) < (m : Int)) = true := decide_eq_true (by omega)
        clear HX
        go_wp2_with fail
        (try simp only [Exit.inBlock, Exit.then])
        exact bodyPost_ret (Lx.results2 rfl _ _ w.heap.size 30 _ rfl (heap_alloc2_old w _ _) Tryd.underlying30 (Lx.info30.trans rfl)) rfl ⟨by rw [HRR.out]; rfl, Lx.al2 w _ _⟩
      · have HRR : Hid (R = .ok 1 0 D m) := Lib.hid (by rw [HX.out, if_neg h24])
        have hd : decide ((24 : Int) < (m : Int)) = false := decide_eq_false (by omega)
        clear HX
        go_wp2_with fail
        (try simp only [Exit.inBlock, Exit.then])
        exact bodyPost_ret (Lx.results2 rfl _ _ w.heap.size 30 _ rfl (heap_alloc2_old w _ _) Tryd.underlying30 (Lx.info30.trans rfl)) rfl ⟨by rw [HRR.out, HE.out]; rfl, Lx.al2 w _ _⟩

theorem Tb.cell {w : World} {B : Nat} {cs : Array Value} (h : Tb w B cs) (i : Nat) (v : Value) (hi : cs[i]? = some v) : w.cell? ⟨B, i, none⟩ = some v := by
  unfold Tb at h
  simp [World.cell?, h, hi]
theorem Tb.frozen {w : World} {B : Nat} {cs : Array Value} (h : Tb w B cs) (i : Nat) : w.frozen? ⟨B, i, none⟩ = false := by
  unfold Tb at h
  simp [World.frozen?, h]
theorem Tb.put {w : World} {B : Nat} {cs : Array Value} (h : Tb w B cs) (i : Nat) (v : Value) : Tb (w.setCell ⟨B, i, none⟩ v) B (cs.setIfInBounds i v) := by
  unfold Tb at h ⊢
  unfold World.setCell
  obtain ⟨h1, h2⟩ := Array.getElem?_eq_some_iff.1 h
  rw [Array.getElem?_eq_getElem (by simpa using h1), Array.getElem_modify]
  simp [h2]
theorem Tb.putFar {w : World} {B B' : Nat} {cs : Array Value} (h : Tb w B cs) (i : Nat) (v : Value) (hne : B ≠ B') : Tb (w.setCell ⟨B', i, none⟩ v) B cs := by
  unfold Tb at h ⊢
  unfold World.setCell
  obtain ⟨h1, h2⟩ := Array.getElem?_eq_some_iff.1 h
  rw [Array.getElem?_eq_getElem (by simpa using h1), Array.getElem_modify, if_neg (fun e => hne e.symm)]
  rw [h2]
theorem Lx.dig_facts (x : UInt8) (l : List UInt8) (hl : Lx.isLet x = false) (hx : Lx.isDig x = true) : Lx.tokF (x :: l) = if 13 < Lx.span Lx.isDig l + 1 || Lx.hd Lx.isWord (l.drop (Lx.span Lx.isDig l)) then .err 4 else .ok 2 (Lx.num ((x :: l).take (Lx.span Lx.isDig l + 1))) ((x :: l).take (Lx.span Lx.isDig l + 1)) (Lx.span Lx.isDig l + 1) := by
  have e : Lx.span Lx.isDig (x :: l) = Lx.span Lx.isDig l + 1 := by
    simp only [Lx.span]
    rw [if_pos hx]
  simp only [Lx.tokF]
  rw [hl, hx, e, List.drop_succ_cons]
  simp
theorem Lx.quo_facts (x : UInt8) (l : List UInt8) (hl : Lx.isLet x = false) (hd : Lx.isDig x = false) (hx : Lx.isQ x = true) : Lx.tokF (x :: l) = Lx.quoF l := by
  unfold Lx.quoF
  simp only [Lx.tokF]
  rw [hl, hd, hx]
  simp
theorem Lx.sym_facts (x : UInt8) (l : List UInt8) (hl : Lx.isLet x = false) (hd : Lx.isDig x = false) (hx : Lx.isQ x = false) : Lx.tokF (x :: l) = Lx.symF x l := by
  unfold Lx.symF
  simp only [Lx.tokF]
  rw [hl, hd, hx]
  simp
theorem Lx.num_snoc (l : List UInt8) (c : UInt8) : Lx.num (l ++ [c]) = Lx.num l * 10 + (c.toNat - 48) := by
  unfold Lx.num
  rw [List.foldl_append]
  rfl

set_option maxHeartbeats 4000000 in
theorem Lx.next_dig (t : ByteArray) (k : Nat) (w : World) (hk : k < t.size) (hm : t.size < 2 ^ 40) (x : UInt8) (hx : t[k]'hk = x) (hlet : Lx.isLet x = false) (hdig : Lx.isDig x = true) :
    Calls Tryd.prog 26 #[.string t, .int .i64 (k : Int)] w fun e w' => e = .returned (Lx.resN k (Lx.tokF (t.data.toList.drop k))) ∧ Below w.heap.size w w' := by
  have hle := Lx.len t
  have HLE := Lib.hid hle
  have hdr := Lx.drop_at t k hk
  rw [hx] at hdr
  have CL := Lib.hid (fun v => Lx.let_any x v)
  rw [hlet] at CL
  have CD := Lib.hid (fun v => Lx.dig_any x v)
  rw [hdig] at CD
  have hR := Lx.dig_facts x (t.data.toList.drop (k + 1)) hlet hdig
  rw [← hdr] at hR
  have hq := Lx.span_le Lx.isDig (t.data.toList.drop (k + 1))
  rw [List.length_drop, hle] at hq
  rw [List.drop_drop] at hR
  have hall : ∀ c ∈ (t.data.toList.drop k).take (Lx.span Lx.isDig (t.data.toList.drop (k + 1)) + 1), Lx.isDig c = true := by
    intro c hc
    rw [hdr, List.take_succ_cons] at hc
    rcases List.mem_cons.1 hc with rfl | hc
    · exact hdig
    · exact Lx.span_take _ _ c hc
  have hE := Lx.ext t k (k + 1 + Lx.span Lx.isDig (t.data.toList.drop (k + 1))) (Lx.span Lx.isDig (t.data.toList.drop (k + 1)) + 1) (by omega)
  have hk2 : k + 1 + Lx.span Lx.isDig (t.data.toList.drop (k + 1)) ≤ t.size := by omega
  have h4 : IntKind.i64.wrap (((k + 1 + Lx.span Lx.isDig (t.data.toList.drop (k + 1)) : Nat) : Int) - (k : Int)) = ((Lx.span Lx.isDig (t.data.toList.drop (k + 1)) + 1 : Nat) : Int) := by rw [IntKind.wrap_i64]; omega
  have h5 : IntKind.i64.wrap ((k : Int) + 1) = ((k + 1 : Nat) : Int) := by rw [IntKind.wrap_i64]; omega
  have hkr : k + (Lx.span Lx.isDig (t.data.toList.drop (k + 1)) + 1) = k + 1 + Lx.span Lx.isDig (t.data.toList.drop (k + 1)) := by omega
  obtain ⟨r, hr⟩ : ∃ r, r = k + 1 + Lx.span Lx.isDig (t.data.toList.drop (k + 1)) := ⟨_, rfl⟩
  rw [← hr] at hE hk2 h4 hkr hR
  have HR := Lib.hid hr
  clear hr
  generalize Lx.tokF (t.data.toList.drop k) = R at *
  generalize Lx.span Lx.isDig (t.data.toList.drop (k + 1)) + 1 = m at *
  have HX := Lib.hid hR
  have HE := Lib.hid hE
  have HALL := Lib.hid hall
  have HKR := Lib.hid hkr
  have hk1 : k + 1 ≤ t.size := by omega
  have hkr2 : k ≤ r := by omega
  have i0 : (0 : Int) ≤ (k : Int) := by omega
  have i1 : (k : Int) < (t.size : Int) := by omega
  have i2 : (k : Int) ≤ (r : Int) := by omega
  have i3 : (r : Int) ≤ (t.size : Int) := by omega
  generalize hkk : k + 1 = k1 at *
  clear hR hE hdr hlet hdig hle hq hkk hkr hall
  go_enter Tryd.func26, Tryd.ntmps26
  go_wp2_with fail
  refine (CL.out _).mono ?_
  rintro e w1 ⟨rfl, rfl⟩
  clear CL
  go_wp2_with fail
  refine (CD.out _).mono ?_
  rintro e w1 ⟨rfl, rfl⟩
  clear CD
  go_wp2_with fail
  go_loop [6] (fun i => ∃ j : Nat, j ≤ t.size ∧ i = .int .i64 (j : Int) ∧ Hid (r = j + Lx.span Lx.isDig (t.data.toList.drop j))) (fun i => t.size - (intOf i).toNat)
  case atStart => exact ⟨k1, hk1, rfl, HR⟩
  case round =>
    clear HR
    obtain ⟨j, hj, rfl, hq⟩ := hrel
    by_cases hlt : j < t.size
    · have hlt' : (j : Int) < (t.size : Int) := by omega
      obtain ⟨y, hy⟩ : ∃ y : UInt8, t[j]'hlt = y := ⟨_, rfl⟩
      have hdr := Lx.drop_at t j hlt
      rw [hy] at hdr
      have CW := Lib.hid (fun v => Lx.dig_any y v)
      cases hw : Lx.isDig y
      · rw [hw] at CW
        have hJ : r = j := by rw [hq.out, hdr]; simp [Lx.span, hw]
        clear hw hq
        subst hJ
        have CX := Lib.hid (fun v => Lx.word_any y v)
        have HLU : Hid (Lx.hd Lx.isWord (t.data.toList.drop r) = Lx.isWord y) := Lib.hid (by rw [hdr]; rfl)
        clear hdr
        go_wp2_with fail
        refine (CW.out _).mono ?_
        rintro e w1 ⟨rfl, rfl⟩
        clear CW
        by_cases h13 : 13 < m
        · have HRR : Hid (R = .err 4) := Lib.hid (by rw [HX.out]; simp [h13])
          have hd : decide ((13 : Int) < (m : Int)) = true := decide_eq_true (by omega)
          clear HX HLU
          go_wp2_with fail
          (try simp only [Exit.inBlock, Exit.then])
          exact bodyPost_ret (Lx.results2 rfl _ _ w.heap.size 30 _ rfl (heap_alloc2_old w _ _) Tryd.underlying30 (Lx.info30.trans rfl)) rfl ⟨by rw [HRR.out]; rfl, Lx.al2 w _ _⟩
        have hd : decide ((13 : Int) < (m : Int)) = false := decide_eq_false (by omega)
        cases hwy : Lx.isWord y
        · rw [hwy] at CX HLU
          clear hwy
          go_wp2_with fail
          refine (CX.out _).mono ?_
          rintro e w1 ⟨rfl, rfl⟩
          clear CX
          have HRR : Hid (R = .ok 2 (Lx.num ((t.data.toList.drop k).take m)) ((t.data.toList.drop k).take m) m) := Lib.hid (by rw [HX.out]; simp [h13, HLU.out])
          clear HX HLU
          go_wp2_with fail
          have t1 : Tb ((w.alloc (.cells #[.int .i64 0, .int .i64 0, .int .i64 0, .string ⟨#[]⟩] 30)).alloc (.cells #[.int .i64 2, .int .i64 (k : Int), .int .i64 0, .string ⟨#[]⟩] 30)) (w.heap.size + 1) #[.int .i64 2, .int .i64 (k : Int), .int .i64 ((0 : Nat) : Int), .string ⟨#[]⟩] := heap_alloc2_new w _ _
          have t0 : Tb ((w.alloc (.cells #[.int .i64 0, .int .i64 0, .int .i64 0, .string ⟨#[]⟩] 30)).alloc (.cells #[.int .i64 2, .int .i64 (k : Int), .int .i64 0, .string ⟨#[]⟩] 30)) w.heap.size #[.int .i64 0, .int .i64 0, .int .i64 0, .string ⟨#[]⟩] := heap_alloc2_old w _ _
          have hb0 := Lx.al2 w (.cells #[.int .i64 0, .int .i64 0, .int .i64 0, .string ⟨#[]⟩] 30) (.cells #[.int .i64 2, .int .i64 (k : Int), .int .i64 0, .string ⟨#[]⟩] 30)
          generalize (w.alloc (.cells #[.int .i64 0, .int .i64 0, .int .i64 0, .string ⟨#[]⟩] 30)).alloc (.cells #[.int .i64 2, .int .i64 (k : Int), .int .i64 0, .string ⟨#[]⟩] 30) = W0 at *
          go_loopw [9] (fun s wr => ∃ (i N : Nat), k ≤ i ∧ i ≤ r ∧ s = .int .i64 (i : Int) ∧ Hid (N = Lx.num ((t.data.toList.drop k).take (i - k))) ∧ Tb wr (w.heap.size + 1) #[.int .i64 2, .int .i64 (k : Int), .int .i64 (N : Int), .string ⟨#[]⟩] ∧ Tb wr w.heap.size #[.int .i64 0, .int .i64 0, .int .i64 0, .string ⟨#[]⟩] ∧ Below w.heap.size w wr) (fun s _ => r - (intOf s).toNat)
          case atStart => exact ⟨k, 0, Nat.le_refl _, hkr2, rfl, Lib.hid (by rw [Nat.sub_self, List.take_zero]; rfl), t1, t0, hb0⟩
          case round =>
            clear t1 t0 hb0
            obtain ⟨i, N, hi0, hi1, rfl, hN, t1, t0, hb⟩ := hrel
            by_cases hil : i < r
            · have hil' : (i : Int) < (r : Int) := by omega
              have hit : i < t.size := by omega
              have hit' : (i : Int) < (t.size : Int) := by omega
              have hi00 : (0 : Int) ≤ (i : Int) := by omega
              obtain ⟨c, hc⟩ : ∃ c : UInt8, t[i]'hit = c := ⟨_, rfl⟩
              have hcl : t.data.toList[i]? = some c := by rw [← hc]; exact Lib.data_getElem? t i hit
              have htk : (t.data.toList.drop k).take (i + 1 - k) = (t.data.toList.drop k).take (i - k) ++ [c] := by
                rw [show i + 1 - k = (i - k) + 1 by omega, List.take_add_one, List.getElem?_drop, show k + (i - k) = i by omega, hcl]
                rfl
              have hsub : ∀ d ∈ (t.data.toList.drop k).take (i + 1 - k), Lx.isDig d = true := fun d hd => by
                have hle : i + 1 - k ≤ m := by have := HKR.out; omega
                refine HALL.out d ?_
                have e : (t.data.toList.drop k).take (i + 1 - k) = ((t.data.toList.drop k).take m).take (i + 1 - k) := by rw [List.take_take, Nat.min_eq_left hle]
                rw [e] at hd
                exact List.mem_of_mem_take hd
              have hcd : Lx.isDig c = true := hsub c (by rw [htk]; simp)
              have hcd2 : 48 ≤ c.toNat ∧ c.toNat ≤ 57 := by simpa [Lx.isDig] using hcd
              have hN2 : N * 10 + (c.toNat - 48) = Lx.num ((t.data.toList.drop k).take (i + 1 - k)) := by rw [htk, Lx.num_snoc, ← hN.out]
              have hNb := Lx.num_lt hsub (by rw [List.length_take]; have := HKR.out; omega)
              rw [← hN2] at hNb
              have hu8 : IntKind.u8.wrap ((c.toNat : Int) - 48) = ((c.toNat - 48 : Nat) : Int) := by simp [IntKind.wrap, IntKind.bits, IntKind.signed]; omega
              have hw1 : IntKind.i64.wrap (((c.toNat - 48 : Nat)) : Int) = ((c.toNat - 48 : Nat) : Int) := by rw [IntKind.wrap_i64]; omega
              have hw2 : IntKind.i64.wrap (10 * (N : Int)) = 10 * (N : Int) := by rw [IntKind.wrap_i64]; omega
              have hw3 : IntKind.i64.wrap (10 * (N : Int) + ((c.toNat - 48 : Nat) : Int)) = ((N * 10 + (c.toNat - 48) : Nat) : Int) := by rw [IntKind.wrap_i64]; omega
              have HN2 := Lib.hid hN2
              generalize N * 10 + (c.toNat - 48) = N2 at *
              generalize c.toNat - 48 = dg at *
              clear hcd hcd2 hN2 hNb hsub htk hcl hN
              have q2 := t1.cell 2 _ rfl
              have q2d : wr.drew.cell? ⟨w.heap.size + 1, 2, none⟩ = some (.int .i64 (N : Int)) := q2
              have hf := t1.frozen 2
              have hfd : wr.drew.frozen? ⟨w.heap.size + 1, 2, none⟩ = false := hf
              have TT := Lib.hid (And.intro (show Tb (wr.drew.setCell ⟨w.heap.size + 1, 2, none⟩ (.int .i64 (N2 : Int))) (w.heap.size + 1) #[.int .i64 2, .int .i64 (k : Int), .int .i64 (N2 : Int), .string ⟨#[]⟩] from Tb.put (w := wr.drew) t1 2 _) (Tb.putFar (w := wr.drew) (B' := w.heap.size + 1) t0 2 (.int .i64 (N2 : Int)) (by omega)))
              have HBW : Hid (Below w.heap.size w (wr.drew.setCell ⟨w.heap.size + 1, 2, none⟩ (.int .i64 (N2 : Int)))) := Lib.hid (Below.setCell (w := wr.drew) (p := ⟨w.heap.size + 1, 2, none⟩) (Lx.Nb hb (Lx.drewN_below wr 1)) (by simp) _)
              go_upto_region 19 with fail
              refine wp_region_still_tail 10 (by kernel_rfl) (by kernel_rfl) ?_
              show wpStill Tryd.prog _ wr.drew (fun a' => wpList Tryd.prog _ _ _ a' wr.drew) _ _
              generalize wr.drew = wd at *
              simp only [List.take_succ_cons, List.take_zero, List.drop_succ_cons, List.drop_zero]
              repeat still_step
              refine wpStill_nil ?_
              go_wp2_with fail
              exact ⟨⟨i + 1, N2, by omega, by omega, by go_num, HN2, TT.out.1, TT.out.2, HBW.out⟩, by simp [intOf]; omega⟩
            · obtain rfl : r = i := by omega
              have HNN : Hid (Lx.num ((t.data.toList.drop k).take m) = N) := Lib.hid (by rw [hN.out]; congr 2; have := HKR.out; omega)
              have hil' : ¬ (r : Int) < (r : Int) := by omega
              have q3 := t1.cell 3 _ rfl
              have f3 := t1.frozen 3
              have TT := Lib.hid (And.intro (show Tb (wr.setCell ⟨w.heap.size + 1, 3, none⟩ (.string (t.extract k r))) (w.heap.size + 1) #[.int .i64 2, .int .i64 (k : Int), .int .i64 (N : Int), .string (t.extract k r)] from t1.put 3 _) (t0.putFar (B' := w.heap.size + 1) 3 (.string (t.extract k r)) (by omega)))
              have HBW : Hid (Below w.heap.size w (wr.setCell ⟨w.heap.size + 1, 3, none⟩ (.string (t.extract k r)))) := Lib.hid (hb.setCell (p := ⟨w.heap.size + 1, 3, none⟩) (by simp) _)
              clear hN t1 t0 hb
              go_wp2_with (first
                | (refine wpList_load_row rfl _ _ rfl (w.heap.size + 1) rfl 30 _ (0, 0) _ TT.out.1 Tryd.underlying30 rfl (Lx.info30.trans rfl) ?_)
                | (refine wpList_store_row rfl _ _ _ rfl w.heap.size _ rfl rfl 30 _ TT.out.2 (Lx.info30.trans rfl) rfl (by simp [Value.oneCell']) ?_))
              (try simp only [Exit.inBlock, Exit.then])
              exact bodyPost_ret (Lx.results2 rfl _ _ w.heap.size 30 _ rfl (TT.out.2.set _) Tryd.underlying30 (Lx.info30.trans rfl)) rfl ⟨by rw [HRR.out, HNN.out, HE.out]; rfl, below_setRow HBW.out (Nat.le_refl _) _⟩
        · rw [hwy] at CX HLU
          have HRR : Hid (R = .err 4) := Lib.hid (by rw [HX.out]; simp [HLU.out])
          clear HX HLU hwy
          go_wp2_with fail
          refine (CX.out _).mono ?_
          rintro e w1 ⟨rfl, rfl⟩
          clear CX
          go_wp2_with fail
          (try simp only [Exit.inBlock, Exit.then])
          exact bodyPost_ret (Lx.results2 rfl _ _ w.heap.size 30 _ rfl (heap_alloc2_old w _ _) Tryd.underlying30 (Lx.info30.trans rfl)) rfl ⟨by rw [HRR.out]; rfl, Lx.al2 w _ _⟩
      · rw [hw] at CW
        have hq2 : Hid (r = (j + 1) + Lx.span Lx.isDig (t.data.toList.drop (j + 1))) := Lib.hid (by rw [hq.out, hdr]; simp only [Lx.span]; rw [if_pos hw]; omega)
        clear hw hdr hq
        go_wp2_with fail
        refine (CW.out _).mono ?_
        rintro e w1 ⟨rfl, rfl⟩
        go_wp2_with fail
        exact ⟨⟨j + 1, by omega, by go_num, hq2⟩, by simp [intOf]; omega⟩
    · have hJ : r = j := by rw [hq.out, Lx.drop_end t j hlt]; rfl
      clear hq
      subst hJ
      have hlt' : ¬ (r : Int) < (t.size : Int) := by omega
      have HLU : Hid (Lx.hd Lx.isWord (t.data.toList.drop r) = false) := Lib.hid (by rw [Lx.drop_end t r hlt]; rfl)
      by_cases h13 : 13 < m
      · have HRR : Hid (R = .err 4) := Lib.hid (by rw [HX.out]; simp [h13])
        have hd : decide ((13 : Int) < (m : Int)) = true := decide_eq_true (by omega)
        clear HX HLU
        go_wp2_with fail
        (try simp only [Exit.inBlock, Exit.then])
        exact bodyPost_ret (Lx.results2 rfl _ _ w.heap.size 30 _ rfl (heap_alloc2_old w _ _) Tryd.underlying30 (Lx.info30.trans rfl)) rfl ⟨by rw [HRR.out]; rfl, Lx.al2 w _ _⟩
      have hd : decide ((13 : Int) < (m : Int)) = false := decide_eq_false (by omega)
      have HRR : Hid (R = .ok 2 (Lx.num ((t.data.toList.drop k).take m)) ((t.data.toList.drop k).take m) m) := Lib.hid (by rw [HX.out]; simp [h13, HLU.out])
      clear HX HLU
      go_wp2_with fail
      have t1 : Tb ((w.alloc (.cells #[.int .i64 0, .int .i64 0, .int .i64 0, .string ⟨#[]⟩] 30)).alloc (.cells #[.int .i64 2, .int .i64 (k : Int), .int .i64 0, .string ⟨#[]⟩] 30)) (w.heap.size + 1) #[.int .i64 2, .int .i64 (k : Int), .int .i64 ((0 : Nat) : Int), .string ⟨#[]⟩] := heap_alloc2_new w _ _
      have t0 : Tb ((w.alloc (.cells #[.int .i64 0, .int .i64 0, .int .i64 0, .string ⟨#[]⟩] 30)).alloc (.cells #[.int .i64 2, .int .i64 (k : Int), .int .i64 0, .string ⟨#[]⟩] 30)) w.heap.size #[.int .i64 0, .int .i64 0, .int .i64 0, .string ⟨#[]⟩] := heap_alloc2_old w _ _
      have hb0 := Lx.al2 w (.cells #[.int .i64 0, .int .i64 0, .int .i64 0, .string ⟨#[]⟩] 30) (.cells #[.int .i64 2, .int .i64 (k : Int), .int .i64 0, .string ⟨#[]⟩] 30)
      generalize (w.alloc (.cells #[.int .i64 0, .int .i64 0, .int .i64 0, .string ⟨#[]⟩] 30)).alloc (.cells #[.int .i64 2, .int .i64 (k : Int), .int .i64 0, .string ⟨#[]⟩] 30) = W0 at *
      go_loopw [9] (fun s wr => ∃ (i N : Nat), k ≤ i ∧ i ≤ r ∧ s = .int .i64 (i : Int) ∧ Hid (N = Lx.num ((t.data.toList.drop k).take (i - k))) ∧ Tb wr (w.heap.size + 1) #[.int .i64 2, .int .i64 (k : Int), .int .i64 (N : Int), .string ⟨#[]⟩] ∧ Tb wr w.heap.size #[.int .i64 0, .int .i64 0, .int .i64 0, .string ⟨#[]⟩] ∧ Below w.heap.size w wr) (fun s _ => r - (intOf s).toNat)
      case atStart => exact ⟨k, 0, Nat.le_refl _, hkr2, rfl, Lib.hid (by rw [Nat.sub_self, List.take_zero]; rfl), t1, t0, hb0⟩
      case round =>
        clear t1 t0 hb0
        obtain ⟨i, N, hi0, hi1, rfl, hN, t1, t0, hb⟩ := hrel
        by_cases hil : i < r
        · have hil' : (i : Int) < (r : Int) := by omega
          have hit : i < t.size := by omega
          have hit' : (i : Int) < (t.size : Int) := by omega
          have hi00 : (0 : Int) ≤ (i : Int) := by omega
          obtain ⟨c, hc⟩ : ∃ c : UInt8, t[i]'hit = c := ⟨_, rfl⟩
          have hcl : t.data.toList[i]? = some c := by rw [← hc]; exact Lib.data_getElem? t i hit
          have htk : (t.data.toList.drop k).take (i + 1 - k) = (t.data.toList.drop k).take (i - k) ++ [c] := by
            rw [show i + 1 - k = (i - k) + 1 by omega, List.take_add_one, List.getElem?_drop, show k + (i - k) = i by omega, hcl]
            rfl
          have hsub : ∀ d ∈ (t.data.toList.drop k).take (i + 1 - k), Lx.isDig d = true := fun d hd => by
            have hle : i + 1 - k ≤ m := by have := HKR.out; omega
            refine HALL.out d ?_
            have e : (t.data.toList.drop k).take (i + 1 - k) = ((t.data.toList.drop k).take m).take (i + 1 - k) := by rw [List.take_take, Nat.min_eq_left hle]
            rw [e] at hd
            exact List.mem_of_mem_take hd
          have hcd : Lx.isDig c = true := hsub c (by rw [htk]; simp)
          have hcd2 : 48 ≤ c.toNat ∧ c.toNat ≤ 57 := by simpa [Lx.isDig] using hcd
          have hN2 : N * 10 + (c.toNat - 48) = Lx.num ((t.data.toList.drop k).take (i + 1 - k)) := by rw [htk, Lx.num_snoc, ← hN.out]
          have hNb := Lx.num_lt hsub (by rw [List.length_take]; have := HKR.out; omega)
          rw [← hN2] at hNb
          have hu8 : IntKind.u8.wrap ((c.toNat : Int) - 48) = ((c.toNat - 48 : Nat) : Int) := by simp [IntKind.wrap, IntKind.bits, IntKind.signed]; omega
          have hw1 : IntKind.i64.wrap (((c.toNat - 48 : Nat)) : Int) = ((c.toNat - 48 : Nat) : Int) := by rw [IntKind.wrap_i64]; omega
          have hw2 : IntKind.i64.wrap (10 * (N : Int)) = 10 * (N : Int) := by rw [IntKind.wrap_i64]; omega
          have hw3 : IntKind.i64.wrap (10 * (N : Int) + ((c.toNat - 48 : Nat) : Int)) = ((N * 10 + (c.toNat - 48) : Nat) : Int) := by rw [IntKind.wrap_i64]; omega
          have HN2 := Lib.hid hN2
          generalize N * 10 + (c.toNat - 48) = N2 at *
          generalize c.toNat - 48 = dg at *
          clear hcd hcd2 hN2 hNb hsub htk hcl hN
          have q2 := t1.cell 2 _ rfl
          have q2d : wr.drew.cell? ⟨w.heap.size + 1, 2, none⟩ = some (.int .i64 (N : Int)) := q2
          have hf := t1.frozen 2
          have hfd : wr.drew.frozen? ⟨w.heap.size + 1, 2, none⟩ = false := hf
          have TT := Lib.hid (And.intro (show Tb (wr.drew.setCell ⟨w.heap.size + 1, 2, none⟩ (.int .i64 (N2 : Int))) (w.heap.size + 1) #[.int .i64 2, .int .i64 (k : Int), .int .i64 (N2 : Int), .string ⟨#[]⟩] from Tb.put (w := wr.drew) t1 2 _) (Tb.putFar (w := wr.drew) (B' := w.heap.size + 1) t0 2 (.int .i64 (N2 : Int)) (by omega)))
          have HBW : Hid (Below w.heap.size w (wr.drew.setCell ⟨w.heap.size + 1, 2, none⟩ (.int .i64 (N2 : Int)))) := Lib.hid (Below.setCell (w := wr.drew) (p := ⟨w.heap.size + 1, 2, none⟩) (Lx.Nb hb (Lx.drewN_below wr 1)) (by simp) _)
          go_upto_region 19 with fail
          refine wp_region_still_tail 10 (by kernel_rfl) (by kernel_rfl) ?_
          show wpStill Tryd.prog _ wr.drew (fun a' => wpList Tryd.prog _ _ _ a' wr.drew) _ _
          generalize wr.drew = wd at *
          simp only [List.take_succ_cons, List.take_zero, List.drop_succ_cons, List.drop_zero]
          repeat still_step
          refine wpStill_nil ?_
          go_wp2_with fail
          exact ⟨⟨i + 1, N2, by omega, by omega, by go_num, HN2, TT.out.1, TT.out.2, HBW.out⟩, by simp [intOf]; omega⟩
        · obtain rfl : r = i := by omega
          have HNN : Hid (Lx.num ((t.data.toList.drop k).take m) = N) := Lib.hid (by rw [hN.out]; congr 2; have := HKR.out; omega)
          have hil' : ¬ (r : Int) < (r : Int) := by omega
          have q3 := t1.cell 3 _ rfl
          have f3 := t1.frozen 3
          have TT := Lib.hid (And.intro (show Tb (wr.setCell ⟨w.heap.size + 1, 3, none⟩ (.string (t.extract k r))) (w.heap.size + 1) #[.int .i64 2, .int .i64 (k : Int), .int .i64 (N : Int), .string (t.extract k r)] from t1.put 3 _) (t0.putFar (B' := w.heap.size + 1) 3 (.string (t.extract k r)) (by omega)))
          have HBW : Hid (Below w.heap.size w (wr.setCell ⟨w.heap.size + 1, 3, none⟩ (.string (t.extract k r)))) := Lib.hid (hb.setCell (p := ⟨w.heap.size + 1, 3, none⟩) (by simp) _)
          clear hN t1 t0 hb
          go_wp2_with (first
            | (refine wpList_load_row rfl _ _ rfl (w.heap.size + 1) rfl 30 _ (0, 0) _ TT.out.1 Tryd.underlying30 rfl (Lx.info30.trans rfl) ?_)
            | (refine wpList_store_row rfl _ _ _ rfl w.heap.size _ rfl rfl 30 _ TT.out.2 (Lx.info30.trans rfl) rfl (by simp [Value.oneCell']) ?_))
          (try simp only [Exit.inBlock, Exit.then])
          exact bodyPost_ret (Lx.results2 rfl _ _ w.heap.size 30 _ rfl (TT.out.2.set _) Tryd.underlying30 (Lx.info30.trans rfl)) rfl ⟨by rw [HRR.out, HNN.out, HE.out]; rfl, below_setRow HBW.out (Nat.le_refl _) _⟩

set_option maxHeartbeats 4000000 in
theorem Lx.next_quo (t : ByteArray) (k : Nat) (w : World) (hk : k < t.size) (hm : t.size < 2 ^ 40) (x : UInt8) (hx : t[k]'hk = x) (hlet : Lx.isLet x = false) (hdig : Lx.isDig x = false) (hquo : Lx.isQ x = true) :
    Calls Tryd.prog 26 #[.string t, .int .i64 (k : Int)] w fun e w' => e = .returned (Lx.resN k (Lx.tokF (t.data.toList.drop k))) ∧ Below w.heap.size w w' := by
  have hle := Lx.len t
  have HLE := Lib.hid hle
  have hdr := Lx.drop_at t k hk
  rw [hx] at hdr
  have CL := Lib.hid (fun v => Lx.let_any x v)
  rw [hlet] at CL
  have CD := Lib.hid (fun v => Lx.dig_any x v)
  rw [hdig] at CD
  have hR := Lx.quo_facts x (t.data.toList.drop (k + 1)) hlet hdig hquo
  rw [← hdr] at hR
  have hx34 : ((x.toNat : Int) == 34) = true := by
    simp only [Lx.isQ, beq_iff_eq] at hquo
    simp
    omega
  have hq := Lx.span_le Lx.isIn (t.data.toList.drop (k + 1))
  rw [List.length_drop, hle] at hq
  unfold Lx.quoF at hR
  rw [List.drop_drop] at hR
  have hE := Lx.ext t (k + 1) (k + 1 + Lx.span Lx.isIn (t.data.toList.drop (k + 1))) _ rfl
  have hk2 : k + 1 + Lx.span Lx.isIn (t.data.toList.drop (k + 1)) ≤ t.size := by omega
  have h4 : IntKind.i64.wrap (((k + 1 + Lx.span Lx.isIn (t.data.toList.drop (k + 1)) : Nat) : Int) - (k : Int)) = ((Lx.span Lx.isIn (t.data.toList.drop (k + 1)) : Nat) : Int) + 1 := by rw [IntKind.wrap_i64]; omega
  have h7 : IntKind.i64.wrap (((Lx.span Lx.isIn (t.data.toList.drop (k + 1)) : Nat) : Int) + 1 - 1) = ((Lx.span Lx.isIn (t.data.toList.drop (k + 1)) : Nat) : Int) := by rw [IntKind.wrap_i64]; omega
  have h8 : IntKind.i64.wrap ((Lx.span Lx.isIn (t.data.toList.drop (k + 1)) : Nat) : Int) = ((Lx.span Lx.isIn (t.data.toList.drop (k + 1)) : Nat) : Int) := by rw [IntKind.wrap_i64]; omega
  have h5 : IntKind.i64.wrap ((k : Int) + 1) = ((k + 1 : Nat) : Int) := by rw [IntKind.wrap_i64]; omega
  have hkr : k + 1 ≤ k + 1 + Lx.span Lx.isIn (t.data.toList.drop (k + 1)) := by omega
  obtain ⟨r, hr⟩ : ∃ r, r = k + 1 + Lx.span Lx.isIn (t.data.toList.drop (k + 1)) := ⟨_, rfl⟩
  rw [← hr] at hE hk2 h4 hR hkr
  have HR := Lib.hid hr
  clear hr
  generalize Lx.tokF (t.data.toList.drop k) = R at *
  generalize Lx.span Lx.isIn (t.data.toList.drop (k + 1)) = m at hq hR hE h4 h7 h8
  generalize (t.data.toList.drop (k + 1)).take m = D at *
  have HX := Lib.hid hR
  have HE := Lib.hid hE
  have hk1 : k + 1 ≤ t.size := by omega
  have i0 : (0 : Int) ≤ (k : Int) := by omega
  have i1 : (k : Int) < (t.size : Int) := by omega
  generalize hkk : k + 1 = k1 at *
  have i2 : (k1 : Int) ≤ (r : Int) := by omega
  have i3 : (r : Int) ≤ (t.size : Int) := by omega
  have i4 : (0 : Int) ≤ (k1 : Int) := by omega
  clear hR hE hdr hlet hdig hquo hle hq hkk hkr
  go_enter Tryd.func26, Tryd.ntmps26
  go_wp2_with fail
  refine (CL.out _).mono ?_
  rintro e w1 ⟨rfl, rfl⟩
  clear CL
  go_wp2_with fail
  refine (CD.out _).mono ?_
  rintro e w1 ⟨rfl, rfl⟩
  clear CD
  go_wp2_with fail
  go_loop [6] (fun i => ∃ j : Nat, j ≤ t.size ∧ i = .int .i64 (j : Int) ∧ Hid (r = j + Lx.span Lx.isIn (t.data.toList.drop j))) (fun i => t.size - (intOf i).toNat)
  case atStart => exact ⟨k1, hk1, rfl, HR⟩
  case round =>
    clear HR
    obtain ⟨j, hj, rfl, hq⟩ := hrel
    by_cases hlt : j < t.size
    · have hlt' : (j : Int) < (t.size : Int) := by omega
      obtain ⟨y, hy⟩ : ∃ y : UInt8, t[j]'hlt = y := ⟨_, rfl⟩
      have hdr := Lx.drop_at t j hlt
      rw [hy] at hdr
      by_cases h34 : y.toNat = 34
      · have hJ : r = j := by rw [hq.out, hdr]; simp [Lx.span, Lx.isIn, h34]
        clear hq
        subst hJ
        have HQ : Hid (Lx.hd Lx.isQ (t.data.toList.drop r) = true) := Lib.hid (by rw [hdr]; simp [Lx.hd, Lx.isQ, h34])
        have g1 : ((y.toNat : Int) != 34) = false := by simp; omega
        have g2 : ((y.toNat : Int) == 10) = false := by simp; omega
        have g3 : ((r : Int) == (t.size : Int)) = false := by simp; omega
        have g4 : (r == t.size) = false := by simp; omega
        have g5 : ¬ r = t.size := by omega
        clear hdr h34
        by_cases h400 : 400 < m
        · have HRR : Hid (R = .err 2) := Lib.hid (by rw [HX.out, HQ.out]; simp [h400])
          have hd : decide ((400 : Int) < (m : Int)) = true := decide_eq_true (by omega)
          clear HX HQ
          go_wp2_with fail
          (try simp only [Exit.inBlock, Exit.then])
          exact bodyPost_ret (Lx.results2 rfl _ _ w.heap.size 30 _ rfl (heap_alloc2_old w _ _) Tryd.underlying30 (Lx.info30.trans rfl)) rfl ⟨by rw [HRR.out]; rfl, Lx.al2 w _ _⟩
        · have HRR : Hid (R = .ok 3 0 D (m + 2)) := Lib.hid (by rw [HX.out, HQ.out]; simp [h400])
          have hd : decide ((400 : Int) < (m : Int)) = false := decide_eq_false (by omega)
          clear HX HQ
          go_wp2_with fail
          (try simp only [Exit.inBlock, Exit.then])
          exact bodyPost_ret (Lx.results2 rfl _ _ w.heap.size 30 _ rfl (heap_alloc2_old w _ _) Tryd.underlying30 (Lx.info30.trans rfl)) rfl ⟨by rw [HRR.out, HE.out]; rfl, Lx.al2 w _ _⟩
      by_cases h10 : y.toNat = 10
      · have hJ : r = j := by rw [hq.out, hdr]; simp [Lx.span, Lx.isIn, h10]
        clear hq
        subst hJ
        have HQ : Hid (Lx.hd Lx.isQ (t.data.toList.drop r) = false) := Lib.hid (by rw [hdr]; simp [Lx.hd, Lx.isQ, h10])
        have g1 : ((y.toNat : Int) != 34) = true := by simp; omega
        have g2 : ((y.toNat : Int) == 10) = true := by simp; omega
        have g6 : ((y.toNat : Int) != 10) = false := by simp; omega
        have g3 : ((r : Int) == (t.size : Int)) = false := by simp; omega
        have g4 : (r == t.size) = false := by simp; omega
        have g5 : ¬ r = t.size := by omega
        clear hdr h34 h10
        have HRR : Hid (R = .err 6) := Lib.hid (by rw [HX.out, HQ.out]; rfl)
        clear HX HQ
        go_wp2_with fail
        (try simp only [Exit.inBlock, Exit.then])
        exact bodyPost_ret (Lx.results2 rfl _ _ w.heap.size 30 _ rfl (heap_alloc2_old w _ _) Tryd.underlying30 (Lx.info30.trans rfl)) rfl ⟨by rw [HRR.out]; rfl, Lx.al2 w _ _⟩
      · have hin : Lx.isIn y = true := by simp [Lx.isIn, h34, h10]
        have hq2 : Hid (r = (j + 1) + Lx.span Lx.isIn (t.data.toList.drop (j + 1))) := Lib.hid (by rw [hq.out, hdr]; simp only [Lx.span]; rw [if_pos hin]; omega)
        have g1 : ((y.toNat : Int) != 34) = true := by simp; omega
        have g6 : ((y.toNat : Int) != 10) = true := by simp; omega
        clear hin hdr hq h34 h10
        go_wp2_with fail
        exact ⟨⟨j + 1, by omega, by go_num, hq2⟩, by simp [intOf]; omega⟩
    · have hJ : r = j := by rw [hq.out, Lx.drop_end t j hlt]; rfl
      clear hq
      subst hJ
      have hlt' : ¬ (r : Int) < (t.size : Int) := by omega
      have HQ : Hid (Lx.hd Lx.isQ (t.data.toList.drop r) = false) := Lib.hid (by rw [Lx.drop_end t r hlt]; rfl)
      have g3 : ((r : Int) == (t.size : Int)) = true := by simp; omega
      have g4 : (r == t.size) = true := by simp; omega
      have HRR : Hid (R = .err 6) := Lib.hid (by rw [HX.out, HQ.out]; rfl)
      clear HX HQ
      go_wp2_with fail
      (try simp only [Exit.inBlock, Exit.then])
      exact bodyPost_ret (Lx.results2 rfl _ _ w.heap.size 30 _ rfl (heap_alloc2_old w _ _) Tryd.underlying30 (Lx.info30.trans rfl)) rfl ⟨by rw [HRR.out]; rfl, Lx.al2 w _ _⟩

set_option maxHeartbeats 4000000 in
theorem Lx.next_sym (t : ByteArray) (k : Nat) (w : World) (hk : k < t.size) (hm : t.size < 2 ^ 40) (x : UInt8) (hx : t[k]'hk = x) (hlet : Lx.isLet x = false) (hdig : Lx.isDig x = false) (hquo : Lx.isQ x = false) :
    Calls Tryd.prog 26 #[.string t, .int .i64 (k : Int)] w fun e w' => e = .returned (Lx.resN k (Lx.tokF (t.data.toList.drop k))) ∧ Below w.heap.size w w' := by
  have hle := Lx.len t
  have HLE := Lib.hid hle
  have hdr := Lx.drop_at t k hk
  rw [hx] at hdr
  have CL := Lib.hid (fun v => Lx.let_any x v)
  rw [hlet] at CL
  have CD := Lib.hid (fun v => Lx.dig_any x v)
  rw [hdig] at CD
  have hR := Lx.sym_facts x (t.data.toList.drop (k + 1)) hlet hdig hquo
  rw [← hdr, Lx.symF_ref] at hR
  have hx34 : ((x.toNat : Int) == 34) = false := by
    simp only [Lx.isQ, beq_eq_false_iff_ne] at hquo
    simp
    omega
  have CA := Lib.hid (fun v => Lx.ang_any x v)
  have CS := Lib.hid (fun v => Lx.sym_any x v)
  have hE1 := Lx.ext t k (k + 1) 1 rfl
  have hE2 := Lx.ext t k (k + 2) 2 rfl
  rw [hdr] at hE1 hE2
  have hF1 : t.extract k (k + 1) = ⟨([x] : List UInt8).toArray⟩ := hE1
  have HF1 := Lib.hid hF1
  have HE2 := Lib.hid hE2
  have h5 : IntKind.i64.wrap ((k : Int) + 1) = ((k + 1 : Nat) : Int) := by rw [IntKind.wrap_i64]; omega
  have h6 : IntKind.i64.wrap (((k + 1 : Nat) : Int) + 1) = ((k + 2 : Nat) : Int) := by rw [IntKind.wrap_i64]; omega
  generalize (x :: t.data.toList.drop (k + 1)).take 2 = D2 at *
  generalize Lx.tokF (t.data.toList.drop k) = R at *
  have HX := Lib.hid hR
  have HDR := Lib.hid (Lx.drop_at t (k + 1))
  have hk1 : k + 1 ≤ t.size := by omega
  have i0 : (0 : Int) ≤ (k : Int) := by omega
  have i1 : (k : Int) < (t.size : Int) := by omega
  have i2 : (k : Int) ≤ ((k + 1 : Nat) : Int) := by omega
  have i3 : ((k + 1 : Nat) : Int) ≤ (t.size : Int) := by omega
  have i4 : (0 : Int) ≤ ((k + 1 : Nat) : Int) := by omega
  have i5 : (k : Int) ≤ ((k + 2 : Nat) : Int) := by omega
  have HK2 : Hid (k + 1 < t.size → ((k + 2 : Nat) : Int) ≤ (t.size : Int)) := Lib.hid (fun h => by omega)
  generalize k + 2 = k2 at *
  generalize hkk : k + 1 = k1 at *
  clear hR hE1 hE2 hF1 hdr hlet hdig hquo hle hkk
  cases hA : Lx.isAng x
  · rw [hA] at CA HX
    clear hA
    cases hS : Lx.isSym x
    · rw [hS] at CS HX
      have HRR : Hid (R = .err 3) := Lib.hid (by rw [HX.out]; simp)
      clear hS HX HDR HK2
      go_enter Tryd.func26, Tryd.ntmps26
      go_wp2_with fail
      refine (CL.out _).mono ?_
      rintro e w1 ⟨rfl, rfl⟩
      clear CL
      go_wp2_with fail
      refine (CD.out _).mono ?_
      rintro e w1 ⟨rfl, rfl⟩
      clear CD
      go_wp2_with fail
      refine (CA.out _).mono ?_
      rintro e w1 ⟨rfl, rfl⟩
      go_wp2_with fail
      refine (CS.out _).mono ?_
      rintro e w1 ⟨rfl, rfl⟩
      go_wp2_with fail
      (try simp only [Exit.inBlock, Exit.then])
      exact bodyPost_ret (Lx.results2 rfl _ _ w.heap.size 30 _ rfl (heap_alloc2_old w _ _) Tryd.underlying30 (Lx.info30.trans rfl)) rfl ⟨by rw [HRR.out]; rfl, Lx.al2 w _ _⟩
    · rw [hS] at CS HX
      have HRR : Hid (R = .ok 4 0 [x] 1) := Lib.hid (by rw [HX.out]; simp)
      clear hS HX HDR HK2
      go_enter Tryd.func26, Tryd.ntmps26
      go_wp2_with fail
      refine (CL.out _).mono ?_
      rintro e w1 ⟨rfl, rfl⟩
      clear CL
      go_wp2_with fail
      refine (CD.out _).mono ?_
      rintro e w1 ⟨rfl, rfl⟩
      clear CD
      go_wp2_with fail
      refine (CA.out _).mono ?_
      rintro e w1 ⟨rfl, rfl⟩
      go_wp2_with fail
      refine (CS.out _).mono ?_
      rintro e w1 ⟨rfl, rfl⟩
      go_wp2_with fail
      (try simp only [Exit.inBlock, Exit.then])
      exact bodyPost_ret (Lx.results2 rfl _ _ w.heap.size 30 _ rfl (heap_alloc2_old w _ _) Tryd.underlying30 (Lx.info30.trans rfl)) rfl ⟨by rw [HRR.out, HF1.out]; rfl, Lx.al2 w _ _⟩
  · rw [hA] at CA HX
    clear hA
    by_cases hlt : k1 < t.size
    · have hlt' : (k1 : Int) < (t.size : Int) := by omega
      obtain ⟨y, hy⟩ : ∃ y : UInt8, t[k1]'hlt = y := ⟨_, rfl⟩
      have hdr := HDR.out hlt
      rw [hy] at hdr
      rw [hdr] at HX
      by_cases h61 : y.toNat = 61
      · have HRR : Hid (R = .ok 4 0 D2 2) := Lib.hid (by rw [HX.out]; simp [Lx.hd, Lx.isEq, h61])
        have g1 : ((y.toNat : Int) == 61) = true := by simp; omega
        have i6 := HK2.out hlt
        clear h61 hdr HX HDR HK2 CS
        go_enter Tryd.func26, Tryd.ntmps26
        go_wp2_with fail
        refine (CL.out _).mono ?_
        rintro e w1 ⟨rfl, rfl⟩
        clear CL
        go_wp2_with fail
        refine (CD.out _).mono ?_
        rintro e w1 ⟨rfl, rfl⟩
        clear CD
        go_wp2_with fail
        refine (CA.out _).mono ?_
        rintro e w1 ⟨rfl, rfl⟩
        go_wp2_with fail
        (try simp only [Exit.inBlock, Exit.then])
        exact bodyPost_ret (Lx.results2 rfl _ _ w.heap.size 30 _ rfl (heap_alloc2_old w _ _) Tryd.underlying30 (Lx.info30.trans rfl)) rfl ⟨by rw [HRR.out, HE2.out]; rfl, Lx.al2 w _ _⟩
      · have g1 : ((y.toNat : Int) == 61) = false := by simp; omega
        have heq : Lx.isEq y = false := by simp [Lx.isEq, h61]
        replace HX : Hid (R = if Lx.isSym x then .ok 4 0 [x] 1 else .err 3) := Lib.hid (by rw [HX.out]; simp [Lx.hd, heq])
        clear h61 hdr heq
        cases hS : Lx.isSym x
        · rw [hS] at CS HX
          have HRR : Hid (R = .err 3) := Lib.hid (by rw [HX.out]; simp)
          clear hS HX HDR HK2
          go_enter Tryd.func26, Tryd.ntmps26
          go_wp2_with fail
          refine (CL.out _).mono ?_
          rintro e w1 ⟨rfl, rfl⟩
          clear CL
          go_wp2_with fail
          refine (CD.out _).mono ?_
          rintro e w1 ⟨rfl, rfl⟩
          clear CD
          go_wp2_with fail
          refine (CA.out _).mono ?_
          rintro e w1 ⟨rfl, rfl⟩
          go_wp2_with fail
          refine (CS.out _).mono ?_
          rintro e w1 ⟨rfl, rfl⟩
          go_wp2_with fail
          (try simp only [Exit.inBlock, Exit.then])
          exact bodyPost_ret (Lx.results2 rfl _ _ w.heap.size 30 _ rfl (heap_alloc2_old w _ _) Tryd.underlying30 (Lx.info30.trans rfl)) rfl ⟨by rw [HRR.out]; rfl, Lx.al2 w _ _⟩
        · rw [hS] at CS HX
          have HRR : Hid (R = .ok 4 0 [x] 1) := Lib.hid (by rw [HX.out]; simp)
          clear hS HX HDR HK2
          go_enter Tryd.func26, Tryd.ntmps26
          go_wp2_with fail
          refine (CL.out _).mono ?_
          rintro e w1 ⟨rfl, rfl⟩
          clear CL
          go_wp2_with fail
          refine (CD.out _).mono ?_
          rintro e w1 ⟨rfl, rfl⟩
          clear CD
          go_wp2_with fail
          refine (CA.out _).mono ?_
          rintro e w1 ⟨rfl, rfl⟩
          go_wp2_with fail
          refine (CS.out _).mono ?_
          rintro e w1 ⟨rfl, rfl⟩
          go_wp2_with fail
          (try simp only [Exit.inBlock, Exit.then])
          exact bodyPost_ret (Lx.results2 rfl _ _ w.heap.size 30 _ rfl (heap_alloc2_old w _ _) Tryd.underlying30 (Lx.info30.trans rfl)) rfl ⟨by rw [HRR.out, HF1.out]; rfl, Lx.al2 w _ _⟩
    · have hlt' : ¬ (k1 : Int) < (t.size : Int) := by omega
      rw [Lx.drop_end t k1 hlt] at HX
      replace HX : Hid (R = if Lx.isSym x then .ok 4 0 [x] 1 else .err 3) := Lib.hid (by rw [HX.out]; simp [Lx.hd])
      cases hS : Lx.isSym x
      · rw [hS] at CS HX
        have HRR : Hid (R = .err 3) := Lib.hid (by rw [HX.out]; simp)
        clear hS HX HDR HK2
        go_enter Tryd.func26, Tryd.ntmps26
        go_wp2_with fail
        refine (CL.out _).mono ?_
        rintro e w1 ⟨rfl, rfl⟩
        clear CL
        go_wp2_with fail
        refine (CD.out _).mono ?_
        rintro e w1 ⟨rfl, rfl⟩
        clear CD
        go_wp2_with fail
        refine (CA.out _).mono ?_
        rintro e w1 ⟨rfl, rfl⟩
        go_wp2_with fail
        refine (CS.out _).mono ?_
        rintro e w1 ⟨rfl, rfl⟩
        go_wp2_with fail
        (try simp only [Exit.inBlock, Exit.then])
        exact bodyPost_ret (Lx.results2 rfl _ _ w.heap.size 30 _ rfl (heap_alloc2_old w _ _) Tryd.underlying30 (Lx.info30.trans rfl)) rfl ⟨by rw [HRR.out]; rfl, Lx.al2 w _ _⟩
      · rw [hS] at CS HX
        have HRR : Hid (R = .ok 4 0 [x] 1) := Lib.hid (by rw [HX.out]; simp)
        clear hS HX HDR HK2
        go_enter Tryd.func26, Tryd.ntmps26
        go_wp2_with fail
        refine (CL.out _).mono ?_
        rintro e w1 ⟨rfl, rfl⟩
        clear CL
        go_wp2_with fail
        refine (CD.out _).mono ?_
        rintro e w1 ⟨rfl, rfl⟩
        clear CD
        go_wp2_with fail
        refine (CA.out _).mono ?_
        rintro e w1 ⟨rfl, rfl⟩
        go_wp2_with fail
        refine (CS.out _).mono ?_
        rintro e w1 ⟨rfl, rfl⟩
        go_wp2_with fail
        (try simp only [Exit.inBlock, Exit.then])
        exact bodyPost_ret (Lx.results2 rfl _ _ w.heap.size 30 _ rfl (heap_alloc2_old w _ _) Tryd.underlying30 (Lx.info30.trans rfl)) rfl ⟨by rw [HRR.out, HF1.out]; rfl, Lx.al2 w _ _⟩

theorem Lx.next_any (t : ByteArray) (k : Nat) (w : World) (hk : k < t.size) (hm : t.size < 2 ^ 40) :
    Calls Tryd.prog 26 #[.string t, .int .i64 (k : Int)] w fun e w' => e = .returned (Lx.resN k (Lx.tokF (t.data.toList.drop k))) ∧ Below w.heap.size w w' := by
  cases h1 : Lx.isLet (t[k]'hk)
  · cases h2 : Lx.isDig (t[k]'hk)
    · cases h3 : Lx.isQ (t[k]'hk)
      · exact Lx.next_sym t k w hk hm _ rfl h1 h2 h3
      · exact Lx.next_quo t k w hk hm _ rfl h1 h2 h3
    · exact Lx.next_dig t k w hk hm _ rfl h1 h2
  · exact Lx.next_let t k w hk hm _ rfl h1
end Go.Proofs.YtkbnaendlcjjbaaDoor
