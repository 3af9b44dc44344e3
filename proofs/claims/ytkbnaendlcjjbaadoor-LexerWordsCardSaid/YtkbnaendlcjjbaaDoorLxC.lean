/- Layer 7: the program's name, number, quoted, symbol: one token. -/
import Derived.Test.YtkbnaendlcjjbaaDoorLxB
import Derived.Test.YtkbnaendlcjjbaaDoorShelf
import Derived.Lib.BufferRead
import Derived.Lib.AppendIntMem
set_option linter.unusedSimpArgs false
set_option linter.unusedVariables false
namespace Go.Proofs.YtkbnaendlcjjbaaDoor
open Go.RowKit
set_option maxRecDepth 100000

/-- What a call for a token at offset k returns. -/
def Lx.resV (k : Nat) : Lx.R → Value
  | .err e => .tuple #[.agg #[.int .i64 0, .int .i64 0, .int .i64 0, .string ⟨#[]⟩], .int .i64 0, .int .i64 e]
  | .ok kd n tx w => .tuple #[.agg #[.int .i64 kd, .int .i64 (k : Int), .int .i64 (n : Int), .string ⟨tx.toArray⟩], .int .i64 ((k + w : Nat) : Int), .int .i64 0]
theorem Lx.ext (t : ByteArray) (k r : Nat) (m : Nat) (hm : r = k + m) : t.extract k r = ⟨((t.data.toList.drop k).take m).toArray⟩ := by
  subst hm
  apply ByteArray.ext
  apply Array.toList_inj.1
  rw [ByteArray.data_extract, Array.toList_extract]
  simp [List.extract, Nat.add_sub_cancel_left]
def Lx.nameF (l : List UInt8) : Lx.R := if 24 < Lx.span Lx.isWord l then .err 2 else .ok 1 0 (l.take (Lx.span Lx.isWord l)) (Lx.span Lx.isWord l)
def Lx.numF (l : List UInt8) : Lx.R := if 13 < Lx.span Lx.isDig l || Lx.hd Lx.isWord (l.drop (Lx.span Lx.isDig l)) then .err 4 else .ok 2 (Lx.num (l.take (Lx.span Lx.isDig l))) (l.take (Lx.span Lx.isDig l)) (Lx.span Lx.isDig l)
def Lx.quoF (r : List UInt8) : Lx.R := if Lx.hd Lx.isQ (r.drop (Lx.span Lx.isIn r)) then (if 400 < Lx.span Lx.isIn r then .err 2 else .ok 3 0 (r.take (Lx.span Lx.isIn r)) (Lx.span Lx.isIn r + 2)) else .err 6

theorem Lx.in_word (c : UInt8) : Lx.inC [4, 5, 6] c = Lx.isWord c := by
  have : ∀ n : Fin 256, [4, 5, 6].contains (Lx.cls n.val) = (((65 ≤ n.val && n.val ≤ 90) || (97 ≤ n.val && n.val ≤ 122)) || (48 ≤ n.val && n.val ≤ 57) || n.val == 95) := by decide +kernel
  exact this ⟨c.toNat, UInt8.toNat_lt c⟩
theorem Lx.in_dig (c : UInt8) : Lx.inC [5] c = Lx.isDig c := by
  have : ∀ n : Fin 256, [5].contains (Lx.cls n.val) = (48 ≤ n.val && n.val ≤ 57) := by decide +kernel
  exact this ⟨c.toNat, UInt8.toNat_lt c⟩
def Lx.isLU (c : UInt8) : Bool := Lx.isLet c || c.toNat == 95
theorem Lx.in_lu (c : UInt8) : Lx.inC [4, 6] c = Lx.isLU c := by
  have : ∀ n : Fin 256, [4, 6].contains (Lx.cls n.val) = (((65 ≤ n.val && n.val ≤ 90) || (97 ≤ n.val && n.val ≤ 122)) || n.val == 95) := by decide +kernel
  exact this ⟨c.toNat, UInt8.toNat_lt c⟩
theorem Lx.not_in (c : UInt8) : Lx.notC [7, 2] c = Lx.isIn c := by
  have : ∀ n : Fin 256, (![7, 2].contains (Lx.cls n.val)) = !(n.val == 34 || n.val == 10) := by decide +kernel
  exact this ⟨c.toNat, UInt8.toNat_lt c⟩
theorem Lx.in_q (c : UInt8) : Lx.inC [7] c = Lx.isQ c := by
  have : ∀ n : Fin 256, [7].contains (Lx.cls n.val) = (n.val == 34) := by decide +kernel
  exact this ⟨c.toNat, UInt8.toNat_lt c⟩
theorem Lx.in_eq (c : UInt8) : Lx.inC [10] c = Lx.isEq c := by
  have : ∀ n : Fin 256, [10].contains (Lx.cls n.val) = (n.val == 61) := by decide +kernel
  exact this ⟨c.toNat, UInt8.toNat_lt c⟩

theorem Lx.results3 {fn : Func} {ty : TypeId} (h : fn.results = #[.cell 4 ty, .tmp 5, .tmp 6]) (tmps : Array Value) (w : World) (g : Nat) (t : TypeId) (cs : Array Value) {fs : _}
    (hp : tmps.getD 4 undef = .pointer (some ⟨g, 0, none⟩)) (hg : w.heap[g]? = some (.cells cs t (0, 0)))
    (hu : Tryd.prog.underlying ty = some (.struct fs)) (hi : (Tryd.prog.info? ty).map (·.size) = some cs.size) :
    (results fn tmps).run Tryd.prog w = .ok (.tuple #[.agg cs, tmps.getD 5 undef, tmps.getD 6 undef]) w := by
  have hp' : tmps[4]?.getD undef = .pointer (some ⟨g, 0, none⟩) := by simpa using hp
  simp [results, h, hp', asAddr, run_loadVar_row w g t ty cs (0, 0) (.struct fs) hg hu rfl hi]
theorem Lx.info30 : (Tryd.prog.info? 30).map (·.size) = some 4 := by kernel_rfl
/-- A token's block. -/
def Tb (w : World) (B : Nat) (cs : Array Value) : Prop := w.heap[B]? = some (.cells cs 30 (0, 0))
theorem Tb.bt {w w' : World} {B : Nat} {cs : Array Value} (h : Tb w B cs) (hb : Below w.heap.size w w') : Tb w' B cs := (hb.block B (Array.getElem?_eq_some_iff.1 h).1).trans h
theorem Tb.new (w : World) (cs : Array Value) : Tb (w.alloc (.cells cs 30)) w.heap.size cs := heap_alloc_new w _
theorem Tb.set {w : World} {B : Nat} {cs : Array Value} (h : Tb w B cs) (ds : Array Value) : Tb (w.setRow B ds) B ds := setRow_heap _ _ _ _ _ _ h
theorem Tb.far {w : World} {B B' : Nat} {cs : Array Value} (h : Tb w B cs) (ds : Array Value) (hne : B ≠ B') : Tb (w.setRow B' ds) B cs := (setRow_other _ _ _ _ hne).trans h

set_option maxHeartbeats 1000000 in
theorem Lx.name_any (b : Nat) (t : ByteArray) (k : Nat) (w : World) (hs : Sc w w.heap.size b t) (hk : k ≤ t.size) (hm : t.size < 2 ^ 40) :
    Calls Tryd.prog 32 #[.pointer (some ⟨b, 0, none⟩), .int .i64 (k : Int)] w fun e w' => e = .returned (Lx.resV k (Lx.nameF (t.data.toList.drop k))) ∧ Below w.heap.size w w' := by
  have hle : t.data.toList.length = t.size := by simp
  have hq := Lx.span_le Lx.isWord (t.data.toList.drop k)
  rw [List.length_drop, hle] at hq
  have S1 := Lib.hid (fun (v : World) (hb : Below w.heap.size w v) (A : Nat) (hA : A = v.heap.size) =>
    (Lx.skip_any b t k 3 ⟨A, 0, none⟩ [4, 5, 6] (v.alloc (.cells #[.int .u8 4, .int .u8 5, .int .u8 6] 41)) ((hs.bt hb).bt (Lx.al v _)) hk hm rfl (by omega) (by decide) (hA ▸ Cs.new v _ [4, 5, 6]) _ rfl).mono
      fun e u h => (⟨h.1.trans (by rw [Lx.span_congr Lx.in_word]), Lx.Nb (Lx.al v _) h.2⟩ : e = .returned (.int .i64 ((k + Lx.span Lx.isWord (t.data.toList.drop k) : Nat) : Int)) ∧ Below v.heap.size v u))
  have hx : Lx.nameF (t.data.toList.drop k) = if 24 < Lx.span Lx.isWord (t.data.toList.drop k) then .err 2 else .ok 1 0 ((t.data.toList.drop k).take (Lx.span Lx.isWord (t.data.toList.drop k))) (Lx.span Lx.isWord (t.data.toList.drop k)) := rfl
  have hE := Lx.ext t k (k + Lx.span Lx.isWord (t.data.toList.drop k)) _ rfl
  generalize Lx.nameF (t.data.toList.drop k) = R at *
  have HX := Lib.hid hx
  generalize hmm : Lx.span Lx.isWord (t.data.toList.drop k) = m at *
  have HE := Lib.hid hE
  have HS := Lib.hid hs
  clear hE hx hs hmm
  go_enter Tryd.func32, Tryd.ntmps32
  go_wp2_with fail
  have hbA := Lx.al w (.cells #[.int .i64 0, .int .i64 0, .int .i64 0, .string ⟨#[]⟩] 30)
  have TB := Lib.hid (Tb.new w #[.int .i64 0, .int .i64 0, .int .i64 0, .string ⟨#[]⟩])
  refine (S1.out _ hbA (w.heap.size + 1) (by simp)).mono ?_
  rintro e w1 ⟨rfl, hb1⟩
  have TB1 := Lib.hid (TB.out.bt hb1)
  have hb := Lx.Nb hbA hb1
  have ht := (HS.out.bt hb).text
  clear TB S1 hbA hb1 HS
  have h1 : (0 : Int) ≤ (k : Int) := by omega
  have h2 : (k : Int) ≤ ((k + m : Nat) : Int) := by omega
  have h3 : ((k + m : Nat) : Int) ≤ (t.size : Int) := by omega
  have h4 : IntKind.i64.wrap (((k + m : Nat) : Int) - (k : Int)) = (m : Int) := by rw [IntKind.wrap_i64]; omega
  by_cases h24 : 24 < m
  · have HR : Hid (R = .err 2) := Lib.hid (by rw [HX.out, if_pos h24])
    clear HX
    have hd : decide ((24 : Int) < (m : Int)) = true := decide_eq_true (by omega)
    generalize k + m = r at *
    go_wp2_with (refine wpList_store_row rfl _ _ _ rfl w.heap.size _ rfl rfl 30 _ TB1.out (Lx.info30.trans rfl) rfl (by simp [Value.oneCell']) ?_)
    (try simp only [Exit.inBlock, Exit.then])
    exact bodyPost_ret (Lx.results3 rfl _ _ w.heap.size 30 _ rfl (TB1.out.set _) Tryd.underlying30 (Lx.info30.trans rfl)) rfl ⟨by rw [HR.out]; rfl, below_setRow hb (Nat.le_refl _) _⟩
  · have HR : Hid (R = .ok 1 0 ((t.data.toList.drop k).take m) m) := Lib.hid (by rw [HX.out, if_neg h24])
    clear HX
    have hd : decide ((24 : Int) < (m : Int)) = false := decide_eq_false (by omega)
    have HKM : Hid ((k + m : Nat) = k + m) := Lib.hid rfl
    generalize hrr : k + m = r at *
    have HRR := Lib.hid hrr
    clear hrr
    go_wp2_with (refine wpList_store_row rfl _ _ _ rfl w.heap.size _ rfl rfl 30 _ TB1.out (Lx.info30.trans rfl) rfl (by simp [Value.oneCell']) ?_)
    (try simp only [Exit.inBlock, Exit.then])
    refine bodyPost_ret (Lx.results3 rfl _ _ w.heap.size 30 _ rfl (TB1.out.set _) Tryd.underlying30 (Lx.info30.trans rfl)) rfl ⟨?_, below_setRow hb (Nat.le_refl _) _⟩
    rw [HR.out, HE.out, ← HRR.out]; rfl
theorem Lx.hd_lu {l : List UInt8} (h : Lx.hd Lx.isDig l = false) : Lx.hd Lx.isWord l = Lx.hd Lx.isLU l := by
  cases l with
  | nil => rfl
  | cons c l =>
    have h : Lx.isDig c = false := h
    show (Lx.isLet c || Lx.isDig c || c.toNat == 95) = (Lx.isLet c || c.toNat == 95)
    rw [h, Bool.or_false]
theorem Lx.bsz (l : List UInt8) : (⟨l.toArray⟩ : ByteArray).data.toList = l := by simp

set_option maxHeartbeats 2000000 in
theorem Lx.number_any (b : Nat) (t : ByteArray) (k : Nat) (w : World) (hs : Sc w w.heap.size b t) (hk : k ≤ t.size) (hm : t.size < 2 ^ 40) (hdg : Lx.hd Lx.isDig (t.data.toList.drop k) = true) :
    Calls Tryd.prog 33 #[.pointer (some ⟨b, 0, none⟩), .int .i64 (k : Int)] w fun e w' => e = .returned (Lx.resV k (Lx.numF (t.data.toList.drop k))) ∧ Below w.heap.size w w' := by
  have hle : t.data.toList.length = t.size := by simp
  have hq := Lx.span_le Lx.isDig (t.data.toList.drop k)
  rw [List.length_drop, hle] at hq
  have S1 := Lib.hid (fun (v : World) (hb : Below w.heap.size w v) (A : Nat) (hA : A = v.heap.size) =>
    (Lx.skip_any b t k 1 ⟨A, 0, none⟩ [5] (v.alloc (.cells #[.int .u8 5] 41)) ((hs.bt hb).bt (Lx.al v _)) hk hm rfl (by omega) (by decide) (hA ▸ Cs.new v _ [5]) _ rfl).mono
      fun e u h => (⟨h.1.trans (by rw [Lx.span_congr Lx.in_dig]), Lx.Nb (Lx.al v _) h.2⟩ : e = .returned (.int .i64 ((k + Lx.span Lx.isDig (t.data.toList.drop (k)) : Nat) : Int)) ∧ Below v.heap.size v u))
  have S2 := Lib.hid (fun (v : World) (hb : Below w.heap.size w v) (A : Nat) (hA : A = v.heap.size) =>
    (Lx.has_any b t (k + Lx.span Lx.isDig (t.data.toList.drop k)) 2 ⟨A, 0, none⟩ [4, 6] (v.alloc (.cells #[.int .u8 4, .int .u8 6] 41)) ((hs.bt hb).bt (Lx.al v _)) (by unfold maxLen; omega) (by unfold maxLen; omega) rfl (by omega) (by decide) (hA ▸ Cs.new v _ [4, 6])).mono
      fun e u h => (⟨h.1.trans (by rw [Lx.hd_congr Lx.in_lu]), Lx.Nb (Lx.al v _) h.2⟩ : e = .returned (.bool (Lx.hd Lx.isLU (t.data.toList.drop ((k + Lx.span Lx.isDig (t.data.toList.drop k)))))) ∧ Below v.heap.size v u))
  have hx : Lx.numF (t.data.toList.drop k) = if 13 < Lx.span Lx.isDig (t.data.toList.drop k) || Lx.hd Lx.isWord ((t.data.toList.drop k).drop (Lx.span Lx.isDig (t.data.toList.drop k))) then .err 4 else .ok 2 (Lx.num ((t.data.toList.drop k).take (Lx.span Lx.isDig (t.data.toList.drop k)))) ((t.data.toList.drop k).take (Lx.span Lx.isDig (t.data.toList.drop k))) (Lx.span Lx.isDig (t.data.toList.drop k)) := rfl
  have hE := Lx.ext t k (k + Lx.span Lx.isDig (t.data.toList.drop k)) _ rfl
  have hall := Lx.span_take Lx.isDig (t.data.toList.drop k)
  have hlu := Lx.hd_lu (Lx.span_drop Lx.isDig (t.data.toList.drop k))
  have hpos := (Lx.hd_true hdg).2
  rw [hlu, List.drop_drop] at hx
  generalize Lx.hd Lx.isLU (t.data.toList.drop (k + Lx.span Lx.isDig (t.data.toList.drop k))) = lu at *
  generalize Lx.numF (t.data.toList.drop k) = R at *
  have HX := Lib.hid hx
  have hmp : 0 < Lx.span Lx.isDig (t.data.toList.drop k) := by omega
  clear hpos hlu
  generalize hmm : Lx.span Lx.isDig (t.data.toList.drop k) = m at *
  have HE := Lib.hid hE
  have HS := Lib.hid hs
  have hln : ((t.data.toList.drop k).take m).length = m := by rw [List.length_take, List.length_drop, hle]; omega
  have HAT := Lib.hid (fun (h13 : m ≤ 13) => Lx.atoi (l := (t.data.toList.drop k).take m) hall (fun e => by rw [e] at hln; simp at hln; omega) (by omega))
  generalize (t.data.toList.drop k).take m = D at *
  have hszD : (⟨D.toArray⟩ : ByteArray).size = D.length := by simp [ByteArray.size]
  have HSZ : Hid ((⟨D.toArray⟩ : ByteArray).size ≤ 9223372036854775806) := Lib.hid (by omega)
  clear hE hx hs hmm hdg hall hln hszD
  have h1 : (0 : Int) ≤ (k : Int) := by omega
  have h2 : (k : Int) ≤ ((k + m : Nat) : Int) := by omega
  have h3 : ((k + m : Nat) : Int) ≤ (t.size : Int) := by omega
  have h4 : IntKind.i64.wrap (((k + m : Nat) : Int) - (k : Int)) = (m : Int) := by rw [IntKind.wrap_i64]; omega
  generalize hrr : k + m = r at *
  have HRR := Lib.hid hrr
  clear hrr
  go_enter Tryd.func33, Tryd.ntmps33
  go_wp2_with fail
  have hbA := Lx.al w (.cells #[.int .i64 0, .int .i64 0, .int .i64 0, .string ⟨#[]⟩] 30)
  have TB := Lib.hid (Tb.new w #[.int .i64 0, .int .i64 0, .int .i64 0, .string ⟨#[]⟩])
  refine (S1.out _ hbA (w.heap.size + 1) (by simp)).mono ?_
  rintro e w1 ⟨rfl, hb1⟩
  have TB1 := Lib.hid (TB.out.bt hb1)
  have hb := Lx.Nb hbA hb1
  have ht := (HS.out.bt hb).text
  clear TB S1 hbA hb1
  by_cases h13 : 13 < m
  · have HR : Hid (R = .err 4) := Lib.hid (by rw [HX.out, if_pos (by rw [decide_eq_true h13]; rfl)])
    clear HX S2 HAT
    have hd : decide ((13 : Int) < (m : Int)) = true := decide_eq_true (by omega)
    go_wp2_with (refine wpList_store_row rfl _ _ _ rfl w.heap.size _ rfl rfl 30 _ TB1.out (Lx.info30.trans rfl) rfl (by simp [Value.oneCell']) ?_)
    (try simp only [Exit.inBlock, Exit.then])
    refine bodyPost_ret (Lx.results3 rfl _ _ w.heap.size 30 _ rfl (TB1.out.set _) Tryd.underlying30 (Lx.info30.trans rfl)) rfl ⟨?_, below_setRow hb (Nat.le_refl _) _⟩
    rw [HR.out]; rfl
  · have hd : decide ((13 : Int) < (m : Int)) = false := decide_eq_false (by omega)
    have C2 := Lib.hid (S2.out w1 hb _ rfl)
    have hat := HAT.out (by omega)
    have HA2 := Lib.hid (fun v => Tryd.strconv_Atoi_ok ⟨D.toArray⟩ HSZ.out (Lx.num D : Int) (by rw [Lx.bsz]; exact hat) v)
    clear S2 HAT hat
    cases lu
    · have HR : Hid (R = .ok 2 (Lx.num D) D m) := Lib.hid (by rw [HX.out]; simp [h13])
      clear HX
      rw [← HE.out] at HA2
      generalize Lx.num D = nd at *
      go_wp2_with fail
      refine C2.out.mono ?_
      rintro e w2 ⟨rfl, hb2⟩
      have TB2 := Lib.hid (TB1.out.bt hb2)
      have hbb := Lx.Nb hb hb2
      have ht2 := (HS.out.bt hbb).text
      clear TB1 hb2 hb ht C2
      go_wp2_with fail
      refine (HA2.out _).mono ?_
      rintro e w3 ⟨rfl, hw3⟩
      have hb3 : Below w2.heap.size w2 w3 := by
        rcases hw3 with rfl | ⟨tt, rfl⟩
        · exact Below.refl _ _
        · exact Lib.bytesWorld_below _ _ _
      have TB3 := Lib.hid (TB2.out.bt hb3)
      have hb := Lx.Nb hbb hb3
      clear hw3 hbb hb3 TB2 HA2 ht2
      go_wp2_with (refine wpList_store_row rfl _ _ _ rfl w.heap.size _ rfl rfl 30 _ TB3.out (Lx.info30.trans rfl) rfl (by simp [Value.oneCell']) ?_)
      (try simp only [Exit.inBlock, Exit.then])
      refine bodyPost_ret (Lx.results3 rfl _ _ w.heap.size 30 _ rfl (TB3.out.set _) Tryd.underlying30 (Lx.info30.trans rfl)) rfl ⟨?_, below_setRow hb (Nat.le_refl _) _⟩
      rw [HR.out, HE.out, ← HRR.out]; rfl
    · have HR : Hid (R = .err 4) := Lib.hid (by rw [HX.out]; simp)
      clear HX
      go_wp2_with fail
      refine C2.out.mono ?_
      rintro e w2 ⟨rfl, hb2⟩
      have TB2 := Lib.hid (TB1.out.bt hb2)
      have hbb := Lx.Nb hb hb2
      clear TB1 hb2 hb ht C2 HA2
      go_wp2_with (refine wpList_store_row rfl _ _ _ rfl w.heap.size _ rfl rfl 30 _ TB2.out (Lx.info30.trans rfl) rfl (by simp [Value.oneCell']) ?_)
      (try simp only [Exit.inBlock, Exit.then])
      refine bodyPost_ret (Lx.results3 rfl _ _ w.heap.size 30 _ rfl (TB2.out.set _) Tryd.underlying30 (Lx.info30.trans rfl)) rfl ⟨?_, below_setRow hbb (Nat.le_refl _) _⟩
      rw [HR.out]; rfl

set_option maxHeartbeats 2000000 in
theorem Lx.quoted_any (b : Nat) (t : ByteArray) (k : Nat) (w : World) (hs : Sc w w.heap.size b t) (hk : k < t.size) (hm : t.size < 2 ^ 40) :
    Calls Tryd.prog 34 #[.pointer (some ⟨b, 0, none⟩), .int .i64 (k : Int)] w fun e w' => e = .returned (Lx.resV k (Lx.quoF (t.data.toList.drop (k + 1)))) ∧ Below w.heap.size w w' := by
  have hle : t.data.toList.length = t.size := by simp
  have hq := Lx.span_le Lx.isIn (t.data.toList.drop (k + 1))
  rw [List.length_drop, hle] at hq
  have S1 := Lib.hid (fun (v : World) (hb : Below w.heap.size w v) (A : Nat) (hA : A = v.heap.size) =>
    (Lx.find_any b t (k + 1) 2 ⟨A, 0, none⟩ [7, 2] (v.alloc (.cells #[.int .u8 7, .int .u8 2] 41)) ((hs.bt hb).bt (Lx.al v _)) (by omega) hm rfl (by omega) (by decide) (hA ▸ Cs.new v _ [7, 2]) _ rfl).mono
      fun e u h => (⟨h.1.trans (by rw [Lx.span_congr Lx.not_in]), Lx.Nb (Lx.al v _) h.2⟩ : e = .returned (.int .i64 (((k + 1) + Lx.span Lx.isIn (t.data.toList.drop ((k + 1))) : Nat) : Int)) ∧ Below v.heap.size v u))
  have S2 := Lib.hid (fun (v : World) (hb : Below w.heap.size w v) (A : Nat) (hA : A = v.heap.size) =>
    (Lx.has_any b t ((k + 1) + Lx.span Lx.isIn (t.data.toList.drop (k + 1))) 1 ⟨A, 0, none⟩ [7] (v.alloc (.cells #[.int .u8 7] 41)) ((hs.bt hb).bt (Lx.al v _)) (by unfold maxLen; omega) (by unfold maxLen; omega) rfl (by omega) (by decide) (hA ▸ Cs.new v _ [7])).mono
      fun e u h => (⟨h.1.trans (by rw [Lx.hd_congr Lx.in_q]), Lx.Nb (Lx.al v _) h.2⟩ : e = .returned (.bool (Lx.hd Lx.isQ (t.data.toList.drop (((k + 1) + Lx.span Lx.isIn (t.data.toList.drop (k + 1))))))) ∧ Below v.heap.size v u))
  have hx : Lx.quoF (t.data.toList.drop (k + 1)) = if Lx.hd Lx.isQ ((t.data.toList.drop (k + 1)).drop (Lx.span Lx.isIn (t.data.toList.drop (k + 1)))) then (if 400 < Lx.span Lx.isIn (t.data.toList.drop (k + 1)) then .err 2 else .ok 3 0 ((t.data.toList.drop (k + 1)).take (Lx.span Lx.isIn (t.data.toList.drop (k + 1)))) (Lx.span Lx.isIn (t.data.toList.drop (k + 1)) + 2)) else .err 6 := rfl
  have hE := Lx.ext t (k + 1) ((k + 1) + Lx.span Lx.isIn (t.data.toList.drop (k + 1))) _ rfl
  rw [List.drop_drop] at hx
  have hsz : (t.extract (k + 1) ((k + 1) + Lx.span Lx.isIn (t.data.toList.drop (k + 1)))).size = Lx.span Lx.isIn (t.data.toList.drop (k + 1)) := by rw [ByteArray.size_extract]; omega
  have hqe : Lx.hd Lx.isQ (t.data.toList.drop ((k + 1) + Lx.span Lx.isIn (t.data.toList.drop (k + 1)))) = true → (k + 1) + Lx.span Lx.isIn (t.data.toList.drop (k + 1)) < t.size := fun h => by have := (Lx.hd_true h).1; omega
  generalize Lx.hd Lx.isQ (t.data.toList.drop ((k + 1) + Lx.span Lx.isIn (t.data.toList.drop (k + 1)))) = bq at *
  generalize Lx.quoF (t.data.toList.drop (k + 1)) = R at *
  have HX := Lib.hid hx
  have HQE := Lib.hid hqe
  generalize hmm : Lx.span Lx.isIn (t.data.toList.drop (k + 1)) = m at *
  have HE := Lib.hid hE
  have HS := Lib.hid hs
  generalize (t.data.toList.drop (k + 1)).take m = D at *
  clear hE hx hs hmm hqe
  have h1 : (0 : Int) ≤ ((k + 1 : Nat) : Int) := by omega
  have h2 : ((k + 1 : Nat) : Int) ≤ ((k + 1 + m : Nat) : Int) := by omega
  have h3 : ((k + 1 + m : Nat) : Int) ≤ (t.size : Int) := by omega
  have h5 : IntKind.i64.wrap ((k : Int) + 1) = ((k + 1 : Nat) : Int) := by rw [IntKind.wrap_i64]; omega
  have h6 : IntKind.i64.wrap (((k + 1 + m : Nat) : Int) + 1) = ((k + (m + 2) : Nat) : Int) := by rw [IntKind.wrap_i64]; omega
  have HF : Hid ((k + (m + 2) : Nat) = k + (m + 2)) := Lib.hid rfl
  generalize k + 1 = k1 at *
  generalize k1 + m = r at *
  generalize hq2 : k + (m + 2) = q2 at h6
  have HQ2 := Lib.hid hq2
  clear hq2 HF
  go_enter Tryd.func34, Tryd.ntmps34
  go_wp2_with fail
  have hbA := Lx.al w (.cells #[.int .i64 0, .int .i64 0, .int .i64 0, .string ⟨#[]⟩] 30)
  have TB := Lib.hid (Tb.new w #[.int .i64 0, .int .i64 0, .int .i64 0, .string ⟨#[]⟩])
  refine (S1.out _ hbA (w.heap.size + 1) (by simp)).mono ?_
  rintro e w1 ⟨rfl, hb1⟩
  have TB1 := Lib.hid (TB.out.bt hb1)
  have hbw := Lx.Nb hbA hb1
  have C2 := Lib.hid (S2.out w1 hbw _ rfl)
  clear TB S1 hbA hb1 S2
  cases bq
  · have HR : Hid (R = .err 6) := Lib.hid (by rw [HX.out]; simp)
    clear HX
    go_wp2_with fail
    refine C2.out.mono ?_
    rintro e w2 ⟨rfl, hb2⟩
    have TB2 := Lib.hid (TB1.out.bt hb2)
    have hb := Lx.Nb hbw hb2
    clear TB1 hb2 C2
    go_wp2_with (refine wpList_store_row rfl _ _ _ rfl w.heap.size _ rfl rfl 30 _ TB2.out (Lx.info30.trans rfl) rfl (by simp [Value.oneCell']) ?_)
    (try simp only [Exit.inBlock, Exit.then])
    refine bodyPost_ret (Lx.results3 rfl _ _ w.heap.size 30 _ rfl (TB2.out.set _) Tryd.underlying30 (Lx.info30.trans rfl)) rfl ⟨?_, below_setRow hb (Nat.le_refl _) _⟩
    rw [HR.out]; rfl
  · go_wp2_with fail
    refine C2.out.mono ?_
    rintro e w2 ⟨rfl, hb2⟩
    have TB2 := Lib.hid (TB1.out.bt hb2)
    have hb := Lx.Nb hbw hb2
    have ht := (HS.out.bt hb).text
    have hmn : min r t.size - k1 = m := by rw [← hsz, ByteArray.size_extract]
    clear TB1 hb2 C2 hbw hsz
    by_cases h4 : 400 < m
    · have HR : Hid (R = .err 2) := Lib.hid (by rw [HX.out]; simp [h4])
      clear HX
      have hd : decide ((400 : Int) < (m : Int)) = true := decide_eq_true (by omega)
      go_wp2_with (refine wpList_store_row rfl _ _ _ rfl w.heap.size _ rfl rfl 30 _ TB2.out (Lx.info30.trans rfl) rfl (by simp [Value.oneCell']) ?_)
      (try simp only [Exit.inBlock, Exit.then])
      refine bodyPost_ret (Lx.results3 rfl _ _ w.heap.size 30 _ rfl (TB2.out.set _) Tryd.underlying30 (Lx.info30.trans rfl)) rfl ⟨?_, below_setRow hb (Nat.le_refl _) _⟩
      rw [HR.out]; rfl
    · have HR : Hid (R = .ok 3 0 D (m + 2)) := Lib.hid (by rw [HX.out]; simp [h4])
      clear HX
      have hd : decide ((400 : Int) < (m : Int)) = false := decide_eq_false (by omega)
      go_wp2_with (refine wpList_store_row rfl _ _ _ rfl w.heap.size _ rfl rfl 30 _ TB2.out (Lx.info30.trans rfl) rfl (by simp [Value.oneCell']) ?_)
      (try simp only [Exit.inBlock, Exit.then])
      refine bodyPost_ret (Lx.results3 rfl _ _ w.heap.size 30 _ rfl (TB2.out.set _) Tryd.underlying30 (Lx.info30.trans rfl)) rfl ⟨?_, below_setRow hb (Nat.le_refl _) _⟩
      rw [HR.out, HE.out, ← HQ2.out]; rfl
end Go.Proofs.YtkbnaendlcjjbaaDoor
