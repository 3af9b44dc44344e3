/- ScriptMatchesReference: the walk. -/
import Derived.Test.YtcjlnmfbanknhaaDoorNmTW
import Derived.Test.YtcjlnmfbanknhaaDoorNmRg
import Derived.Test.YtcjlnmfbanknhaaDoorNmRh
import Derived.Test.YtcjlnmfbanknhaaDoorNmRk
import Derived.Lib.QuietBelow
import Derived.BigRegion
set_option linter.unusedSimpArgs false
set_option linter.unusedVariables false
namespace Go.Proofs.YtcjlnmfbanknhaaDoor
open Go.RowKit Go.Shelf
set_option maxRecDepth 100000
set_option maxHeartbeats 8000000
def Nm.fo (s : Nat) (w : Nm.T) : ByteArray := if Nm.isW s w = true then Nm.bt (w.map Nm.low) else ⟨#[]⟩
theorem Nm.fold_uni (k : Int) (x : ByteArray) (w : World) (hm : x.size ≤ maxLen) (h : Nm.Tb w.heap.size w) :
    Calls Tryd.prog 9 #[.int .i64 k, .string x] w fun e w' => e = .returned (.tuple #[.string (Nm.fo (Nm.sc k) x.data.toList), .int .i64 (Nm.le (Nm.sc k) x.data.toList)]) ∧ Below w.heap.size w w' := by
  unfold Nm.fo Nm.le
  cases hw : Nm.isW (Nm.sc k) x.data.toList with
  | true => exact Nm.fold_ok k x w hw hm h
  | false => exact Nm.fold_bad k x w hw hm h
theorem Nm.rfold_uni (k : Int) (x : ByteArray) (w : World) (hm : x.size ≤ 1000) :
    Calls Tryd.prog 10 #[.int .i64 k, .string x] w fun e w' => e = .returned (.tuple #[.string (Nm.fo (Nm.sc k) x.data.toList), .int .i64 (Nm.le (Nm.sc k) x.data.toList)]) ∧ Below w.heap.size w w' := by
  unfold Nm.fo Nm.le
  cases hw : Nm.isW (Nm.sc k) x.data.toList with
  | true => exact Nm.rfold_ok k x w hm hw
  | false => exact Nm.rfold_bad k x w hm hw
theorem Nm.rletters_uni (k : Int) (word : ByteArray) (w : World) (hm : word.size ≤ 1000) :
    Calls Tryd.prog 8 #[.int .i64 k, .string word] w fun e w' => ∃ A c, e = .returned (.tuple #[.slice A (Nm.LL (Nm.sc k) word.data.toList).length c, .int .i64 (Nm.le (Nm.sc k) word.data.toList)]) ∧ Strs w' w'.heap.size A (Nm.LL (Nm.sc k) word.data.toList) ∧ Below w.heap.size w w' := by
  refine (Nm.rletters_any k word w hm).mono ?_
  rintro e w' ⟨g, ⟨hw, v, rfl, o⟩ | ⟨hw, rfl⟩⟩
  · obtain ⟨A, c, rfl, s, _, _⟩ := o.form
    unfold Nm.LL Nm.le
    rw [if_pos hw, if_pos hw]
    exact ⟨A, c, rfl, s, g⟩
  · unfold Nm.LL Nm.le
    rw [if_neg (by rw [hw]; decide), if_neg (by rw [hw]; decide)]
    exact ⟨none, 0, rfl, fun k hk => absurd hk (by simp), g⟩
/-- Both parsers. -/
theorem Nm.pform {f : FuncId} {t : ByteArray} {v : World} {p : Nm.PR} (h : Calls Tryd.prog f #[.string t] v (Nm.PPost v p)) :
    Calls Tryd.prog f #[.string t] v fun e w' => ∃ A c, e = .returned (.tuple #[.agg #[.int .i64 (p.s : Int), .slice A (p.ws.map Nm.bt).length c], .int .i64 p.e, .int .i64 p.a]) ∧ Strs w' w'.heap.size A (p.ws.map Nm.bt) ∧ Below v.heap.size v w' := by
  refine h.mono ?_
  rintro e w' ⟨x, rfl, o, g⟩
  obtain ⟨A, c, rfl, s, _, _⟩ := o.form
  exact ⟨A, c, rfl, s, g⟩
theorem Nm.texts_n (A : Option Addr) (c : Nat) (ss : List ByteArray) (n : Nat) (B : Option Addr) (d : Nat) (hn : ss.length = n) (hl : n ≤ maxLen) (w : World) (ha : Strs w w.heap.size A ss) (hb : Strs w w.heap.size B ss) :
    Calls Tryd.prog 17 #[.slice A n c, .slice B n d] w fun e w' => e = .returned (.bool true) ∧ Below w.heap.size w w' := by
  have := Nm.texts_any A c ss B d ss w ha hb (by omega) (by omega)
  rw [hn, decide_eq_true rfl] at this
  exact this
theorem Nm.same_t (k : Int) (A : Option Addr) (c : Nat) (ss : List ByteArray) (n : Nat) (B : Option Addr) (d : Nat) (hn : ss.length = n) (hl : n ≤ maxLen) (w : World) (ha : Strs w w.heap.size A ss) (hb : Strs w w.heap.size B ss) :
    Calls Tryd.prog 18 #[.agg #[.int .i64 k, .slice A n c], .agg #[.int .i64 k, .slice B n d]] w fun e w' => e = .returned (.bool true) ∧ Below w.heap.size w w' := by
  refine (Nm.same_n k A c ss n k B d ss n hn hn hl hl w ha hb).mono ?_
  rintro e w' ⟨he, hb⟩
  exact ⟨by rw [he]; simp, hb⟩
theorem Nm.B2.bt {W V : World} {E : Nat} {x u : Value} (h : Nm.B2 W E x u) (hb : Below W.heap.size W V) : Nm.B2 V E x u := h.below hb h.lt
theorem Nm.match_walk (k : Int) (A : Option Addr) (c : Nat) (ss : List ByteArray) (kind : Int) (a b : ByteArray) (w : World) (hp : Nm.Pa w.heap.size w)
    (hs : Strs w w.heap.size A ss) (hk : ss.length ≤ c) (hm : c ≤ maxLen) (hx : ∀ x ∈ ss, x.size ≤ maxLen) (wi : (Go.Lit.int .i64 k).wf = true)
    (wi2 : (Go.Lit.int .i64 kind).wf = true) (ha : a.size ≤ maxLen) (hb0 : b.size ≤ maxLen) :
    Calls Tryd.prog 3 #[.agg #[.int .i64 k, .slice A ss.length c], .int .i64 kind, .string a, .string b] w fun e w' => e = .returned (.bool true) ∧ Below w.heap.size w w' := by
  have HD := Lib.hid (fun v (hv : Below w.heap.size w v) => Nm.head_any v (hp.bt hv))
  have SH := Lib.hid (Nm.short1 a)
  obtain ⟨n, hn⟩ : ∃ n, ss.length = n := ⟨_, rfl⟩
  rw [hn] at hk ⊢
  have FA := Lib.hid (fun v (hv : Below w.heap.size w v) => Nm.few_n k A c ss n hn (by omega) v (Nm.sbt hs hv))
  have HZ : Hid (Nm.B2 (w.alloc (.cells #[.int .i64 k, .slice A n c] 24)) w.heap.size (.int .i64 k) (.slice A n c)) := Lib.hid (heap_alloc_new w _)
  have hb := Nm.al w (.cells #[.int .i64 k, .slice A n c] 24)
  cases hfa : Nm.fw ss with
  | false =>
    rw [hfa] at FA
    clear hfa hs hp hx ha hb0 wi wi2 hn hk hm SH
    have z0 := HZ.out.c0
    have z1 := HZ.out.c1
    go_enter Tryd.func3, Tryd.ntmps3
    go_wp2_with fail
    refine (HD.out _ hb).mono ?_
    rintro e v ⟨rfl, g⟩
    have hb' := Nm.Nb hb g
    have HZ' := Lib.hid (HZ.out.bt g)
    clear g z0 z1 hb HZ
    have hb := hb'
    have HZ := HZ'
    clear hb' HZ'
    have z0 := HZ.out.c0
    have z1 := HZ.out.c1
    go_wp2_with fail
    refine (FA.out _ hb).mono ?_
    rintro e v ⟨rfl, g⟩
    have hb' := Nm.Nb hb g
    have HZ' := Lib.hid (HZ.out.bt g)
    clear g z0 z1 hb HZ
    have hb := hb'
    have HZ := HZ'
    clear hb' HZ'
    have z0 := HZ.out.c0
    have z1 := HZ.out.c1
    go_wp2
    go_ret
    exact ⟨rfl, hb⟩
  | true =>
  rw [hfa] at FA
  cases hsh : Nm.sh a with
  | false =>
    rw [hsh] at SH
    clear hfa hsh hs hp hx ha hb0 wi wi2 hn hk hm
    have z0 := HZ.out.c0
    have z1 := HZ.out.c1
    go_enter Tryd.func3, Tryd.ntmps3
    go_wp2_with fail
    refine (HD.out _ hb).mono ?_
    rintro e v ⟨rfl, g⟩
    have hb' := Nm.Nb hb g
    have HZ' := Lib.hid (HZ.out.bt g)
    clear g z0 z1 hb HZ
    have hb := hb'
    have HZ := HZ'
    clear hb' HZ'
    have z0 := HZ.out.c0
    have z1 := HZ.out.c1
    go_wp2_with fail
    refine (FA.out _ hb).mono ?_
    rintro e v ⟨rfl, g⟩
    have hb' := Nm.Nb hb g
    have HZ' := Lib.hid (HZ.out.bt g)
    clear g z0 z1 hb HZ
    have hb := hb'
    have HZ := HZ'
    clear hb' HZ'
    have z0 := HZ.out.c0
    have z1 := HZ.out.c1
    go_wp2_with fail
    refine (SH.out _).mono ?_
    rintro e v ⟨rfl, g⟩
    have hb' := Nm.Nb hb g
    have HZ' := Lib.hid (HZ.out.bt g)
    clear g z0 z1 hb HZ
    have hb := hb'
    have HZ := HZ'
    clear hb' HZ'
    have z0 := HZ.out.c0
    have z1 := HZ.out.c1
    go_wp2
    go_ret
    exact ⟨rfl, hb⟩
  | true =>
  rw [hsh] at SH
  have h200 : a.size ≤ 200 := of_decide_eq_true hsh
  by_cases h2000 : 2000 < b.size
  · have hd : decide ((2000 : Int) < (b.size : Int)) = true := decide_eq_true (by omega)
    clear hfa hsh hs hp hx ha hb0 wi wi2 hn hk hm h2000 h200
    have z0 := HZ.out.c0
    have z1 := HZ.out.c1
    go_enter Tryd.func3, Tryd.ntmps3
    go_wp2_with fail
    refine (HD.out _ hb).mono ?_
    rintro e v ⟨rfl, g⟩
    have hb' := Nm.Nb hb g
    have HZ' := Lib.hid (HZ.out.bt g)
    clear g z0 z1 hb HZ
    have hb := hb'
    have HZ := HZ'
    clear hb' HZ'
    have z0 := HZ.out.c0
    have z1 := HZ.out.c1
    go_wp2_with fail
    refine (FA.out _ hb).mono ?_
    rintro e v ⟨rfl, g⟩
    have hb' := Nm.Nb hb g
    have HZ' := Lib.hid (HZ.out.bt g)
    clear g z0 z1 hb HZ
    have hb := hb'
    have HZ := HZ'
    clear hb' HZ'
    have z0 := HZ.out.c0
    have z1 := HZ.out.c1
    go_wp2_with fail
    refine (SH.out _).mono ?_
    rintro e v ⟨rfl, g⟩
    have hb' := Nm.Nb hb g
    have HZ' := Lib.hid (HZ.out.bt g)
    clear g z0 z1 hb HZ
    have hb := hb'
    have HZ := HZ'
    clear hb' HZ'
    have z0 := HZ.out.c0
    have z1 := HZ.out.c1
    go_wp2
    go_ret
    exact ⟨rfl, hb⟩
  have hd : decide ((2000 : Int) < (b.size : Int)) = false := decide_eq_false (by omega)
  have hfw : n ≤ 20 ∧ ∀ x ∈ ss, x.size ≤ 100 := by
    unfold Nm.fw at hfa
    rw [Bool.and_eq_true, decide_eq_true_eq, hn] at hfa
    refine ⟨hfa.2, fun x hx => ?_⟩
    rw [List.take_of_length_le (by omega)] at hfa
    have := List.all_eq_true.1 hfa.1 x hx
    unfold Nm.s100 at this
    simpa using this
  have LP := Lib.hid (fun v (hv : Below w.heap.size w v) => Nm.letters_uni kind a v (by omega) (hp.bt hv).tb)
  have RL := Lib.hid (fun v (hv : Below w.heap.size w v) => Nm.rletters_uni kind a v (by omega))
  have FP := Lib.hid (fun v (hv : Below w.heap.size w v) => Nm.fold_uni kind a v (by omega) (hp.bt hv).tb)
  have RF := Lib.hid (fun v (hv : Below w.heap.size w v) => Nm.rfold_uni kind a v (by omega))
  have TP := Lib.hid (fun v (hv : Below w.heap.size w v) => Nm.text_n k A c ss n hn v (Nm.sbt hs hv) hk hm hx (hp.bt hv).tb)
  have RT := Lib.hid (fun v (hv : Below w.heap.size w v) => Nm.rtext_any k A c ss n hn hfw.1 hfw.2 v (Nm.sbt hs hv))
  have PP := Lib.hid (fun v (hv : Below w.heap.size w v) => Nm.pform (Nm.parse_any b v hb0 (hp.bt hv)))
  have RP := Lib.hid (fun v (hv : Below w.heap.size w v) => Nm.pform (Nm.rparse_any b v (by omega)))
  have VP := Lib.hid (fun v (hv : Below w.heap.size w v) => Nm.valid_n k A c ss n hn (by omega) v (Nm.sbt hs hv) hx (hp.bt hv).tb)
  have RV := Lib.hid (fun v (hv : Below w.heap.size w v) => Nm.rvalid_any k A c ss n hn hfw.1 hfw.2 v (Nm.sbt hs hv))
  have hlm : (Nm.LL (Nm.sc kind) a.data.toList).length ≤ maxLen := by have := Nm.LL_len (Nm.sc kind) a.data.toList; unfold maxLen; omega
  obtain ⟨ll, hll⟩ : ∃ ll, Nm.LL (Nm.sc kind) a.data.toList = ll := ⟨_, rfl⟩
  obtain ⟨le, hle⟩ : ∃ le, Nm.le (Nm.sc kind) a.data.toList = le := ⟨_, rfl⟩
  obtain ⟨fo, hfo⟩ : ∃ fo, Nm.fo (Nm.sc kind) a.data.toList = fo := ⟨_, rfl⟩
  obtain ⟨tx, htx⟩ : ∃ tx, Nm.tx k ss = tx := ⟨_, rfl⟩
  obtain ⟨te, hte⟩ : ∃ te, Nm.te k ss = te := ⟨_, rfl⟩
  obtain ⟨r, hr⟩ : ∃ r, Nm.okT k ss = r := ⟨_, rfl⟩
  have hpl : ((Nm.parse b.data.toList).ws.map Nm.bt).length ≤ maxLen := by
    have h1 := Nm.parse_few b.data.toList
    unfold maxLen
    rw [List.length_map]
    omega
  obtain ⟨pw, hpw⟩ : ∃ pw, (Nm.parse b.data.toList).ws.map Nm.bt = pw := ⟨_, rfl⟩
  obtain ⟨ps, hps⟩ : ∃ ps, ((Nm.parse b.data.toList).s : Int) = ps := ⟨_, rfl⟩
  obtain ⟨pe, hpe⟩ : ∃ pe, (Nm.parse b.data.toList).e = pe := ⟨_, rfl⟩
  obtain ⟨pa, hpa⟩ : ∃ pa, (Nm.parse b.data.toList).a = pa := ⟨_, rfl⟩
  rw [hll] at LP RL hlm
  rw [hle] at LP RL FP RF
  rw [hfo] at FP RF
  rw [htx, hte] at TP RT
  rw [hr] at VP RV
  rw [hpw, hps, hpe, hpa] at PP RP
  rw [hpw] at hpl
  obtain ⟨m, hm2⟩ : ∃ m, ll.length = m := ⟨_, rfl⟩
  obtain ⟨q, hq⟩ : ∃ q, pw.length = q := ⟨_, rfl⟩
  rw [hm2] at LP RL hlm
  rw [hq] at PP RP hpl
  have TT := Lib.hid (fun A1 c1 A2 c2 v (s1 : Strs v v.heap.size A1 ll) (s2 : Strs v v.heap.size A2 ll) => Nm.texts_n A1 c1 ll m A2 c2 hm2 hlm v s1 s2)
  have SM := Lib.hid (fun A1 c1 A2 c2 v (s1 : Strs v v.heap.size A1 pw) (s2 : Strs v v.heap.size A2 pw) => Nm.same_t ps A1 c1 pw q A2 c2 hq hpl v s1 s2)
  have hrr : (r == r) = true := by simp
  have hll2 : (le == le) = true := by simp
  have hff : (fo.toList == fo.toList) = true := by simp
  have htt : (tx.toList == tx.toList) = true := by simp
  have htt2 : (te == te) = true := by simp
  have hee : (pe == pe) = true := by simp
  have haa : (pa == pa) = true := by simp
  clear hfa hsh hs hp hx ha hb0 wi wi2 hn hk hm h2000 h200 hfw hll hle hfo htx hte hr hpw hps hpe hpa hm2 hq hlm hpl
  have z0 := HZ.out.c0
  have z1 := HZ.out.c1
  go_enter Tryd.func3, Tryd.ntmps3
  go_wp2_with fail
  refine (HD.out _ hb).mono ?_
  rintro e v ⟨rfl, g⟩
  have hb' := Nm.Nb hb g
  have HZ' := Lib.hid (HZ.out.bt g)
  clear g z0 z1 hb HZ
  have hb := hb'
  have HZ := HZ'
  clear hb' HZ'
  have z0 := HZ.out.c0
  have z1 := HZ.out.c1
  go_wp2_with fail
  refine (FA.out _ hb).mono ?_
  rintro e v ⟨rfl, g⟩
  have hb' := Nm.Nb hb g
  have HZ' := Lib.hid (HZ.out.bt g)
  clear g z0 z1 hb HZ
  have hb := hb'
  have HZ := HZ'
  clear hb' HZ'
  have z0 := HZ.out.c0
  have z1 := HZ.out.c1
  go_wp2_with fail
  refine (SH.out _).mono ?_
  rintro e v ⟨rfl, g⟩
  have hb' := Nm.Nb hb g
  have HZ' := Lib.hid (HZ.out.bt g)
  clear g z0 z1 hb HZ
  have hb := hb'
  have HZ := HZ'
  clear hb' HZ'
  have z0 := HZ.out.c0
  have z1 := HZ.out.c1
  go_wp2_with fail
  refine (LP.out _ hb).mono ?_
  rintro e v ⟨A1, c1, rfl, s1, g⟩
  have S1 := Lib.hid s1
  clear s1
  have hb' := Nm.Nb hb g
  have HZ' := Lib.hid (HZ.out.bt g)
  clear g z0 z1 hb HZ
  have hb := hb'
  have HZ := HZ'
  clear hb' HZ'
  have z0 := HZ.out.c0
  have z1 := HZ.out.c1
  go_wp2_with fail
  refine (RL.out _ hb).mono ?_
  rintro e v ⟨A2, c2, rfl, s2, g⟩
  have S2 := Lib.hid s2
  clear s2
  have hb' := Nm.Nb hb g
  have HZ' := Lib.hid (HZ.out.bt g)
  have S1' := Lib.hid (Nm.sbt S1.out g)
  clear g z0 z1 hb HZ S1
  have hb := hb'
  have HZ := HZ'
  have S1 := S1'
  clear hb' HZ' S1'
  have z0 := HZ.out.c0
  have z1 := HZ.out.c1
  go_wp2_with fail
  refine (FP.out _ hb).mono ?_
  rintro e v ⟨rfl, g⟩
  have hb' := Nm.Nb hb g
  have HZ' := Lib.hid (HZ.out.bt g)
  have S1' := Lib.hid (Nm.sbt S1.out g)
  have S2' := Lib.hid (Nm.sbt S2.out g)
  clear g z0 z1 hb HZ S1 S2
  have hb := hb'
  have HZ := HZ'
  have S1 := S1'
  have S2 := S2'
  clear hb' HZ' S1' S2'
  have z0 := HZ.out.c0
  have z1 := HZ.out.c1
  go_wp2_with fail
  refine (RF.out _ hb).mono ?_
  rintro e v ⟨rfl, g⟩
  have hb' := Nm.Nb hb g
  have HZ' := Lib.hid (HZ.out.bt g)
  have S1' := Lib.hid (Nm.sbt S1.out g)
  have S2' := Lib.hid (Nm.sbt S2.out g)
  clear g z0 z1 hb HZ S1 S2
  have hb := hb'
  have HZ := HZ'
  have S1 := S1'
  have S2 := S2'
  clear hb' HZ' S1' S2'
  have z0 := HZ.out.c0
  have z1 := HZ.out.c1
  go_wp2_with fail
  refine (TP.out _ hb).mono ?_
  rintro e v ⟨rfl, g⟩
  have hb' := Nm.Nb hb g
  have HZ' := Lib.hid (HZ.out.bt g)
  have S1' := Lib.hid (Nm.sbt S1.out g)
  have S2' := Lib.hid (Nm.sbt S2.out g)
  clear g z0 z1 hb HZ S1 S2
  have hb := hb'
  have HZ := HZ'
  have S1 := S1'
  have S2 := S2'
  clear hb' HZ' S1' S2'
  have z0 := HZ.out.c0
  have z1 := HZ.out.c1
  go_wp2_with fail
  refine (RT.out _ hb).mono ?_
  rintro e v ⟨rfl, g⟩
  have hb' := Nm.Nb hb g
  have HZ' := Lib.hid (HZ.out.bt g)
  have S1' := Lib.hid (Nm.sbt S1.out g)
  have S2' := Lib.hid (Nm.sbt S2.out g)
  clear g z0 z1 hb HZ S1 S2
  have hb := hb'
  have HZ := HZ'
  have S1 := S1'
  have S2 := S2'
  clear hb' HZ' S1' S2'
  have z0 := HZ.out.c0
  have z1 := HZ.out.c1
  go_wp2_with fail
  refine (PP.out _ hb).mono ?_
  rintro e v ⟨A3, A3c, rfl, sx, g⟩
  have S3 := Lib.hid sx
  clear sx
  have hb' := Nm.Nb hb g
  have HZ' := Lib.hid (HZ.out.bt g)
  have S1' := Lib.hid (Nm.sbt S1.out g)
  have S2' := Lib.hid (Nm.sbt S2.out g)
  clear g z0 z1 hb HZ S1 S2
  have hb := hb'
  have HZ := HZ'
  have S1 := S1'
  have S2 := S2'
  clear hb' HZ' S1' S2'
  have z0 := HZ.out.c0
  have z1 := HZ.out.c1
  go_wp2_with fail
  have g := Nm.al v (.cells #[.int .i64 ps, .slice A3 q A3c] 24)
  have X1 : Hid (Nm.B2 (v.alloc (.cells #[.int .i64 ps, .slice A3 q A3c] 24)) v.heap.size (.int .i64 ps) (.slice A3 q A3c)) := Lib.hid (heap_alloc_new v _)
  have hb' := Nm.Nb hb g
  have HZ' := Lib.hid (HZ.out.bt g)
  have S1' := Lib.hid (Nm.sbt S1.out g)
  have S2' := Lib.hid (Nm.sbt S2.out g)
  have S3' := Lib.hid (Nm.sbt S3.out g)
  clear g z0 z1 hb HZ S1 S2 S3
  have hb := hb'
  have HZ := HZ'
  have S1 := S1'
  have S2 := S2'
  have S3 := S3'
  clear hb' HZ' S1' S2' S3'
  have z0 := HZ.out.c0
  have z1 := HZ.out.c1
  obtain ⟨bX1, hbx⟩ : ∃ bx, v.heap.size = bx := ⟨_, rfl⟩
  rw [hbx] at X1 ⊢
  clear hbx
  generalize v.alloc (.cells #[.int .i64 ps, .slice A3 q A3c] 24) = uX1 at *
  refine (RP.out _ hb).mono ?_
  rintro e v ⟨A4, A4c, rfl, sx, g⟩
  have S4 := Lib.hid sx
  clear sx
  have hb' := Nm.Nb hb g
  have HZ' := Lib.hid (HZ.out.bt g)
  have S1' := Lib.hid (Nm.sbt S1.out g)
  have S2' := Lib.hid (Nm.sbt S2.out g)
  have S3' := Lib.hid (Nm.sbt S3.out g)
  have X1' := Lib.hid (X1.out.bt g)
  clear g z0 z1 hb HZ S1 S2 S3 X1
  have hb := hb'
  have HZ := HZ'
  have S1 := S1'
  have S2 := S2'
  have S3 := S3'
  have X1 := X1'
  clear hb' HZ' S1' S2' S3' X1'
  have z0 := HZ.out.c0
  have z1 := HZ.out.c1
  go_wp2_with fail
  have g := Nm.al v (.cells #[.int .i64 ps, .slice A4 q A4c] 24)
  have X2 : Hid (Nm.B2 (v.alloc (.cells #[.int .i64 ps, .slice A4 q A4c] 24)) v.heap.size (.int .i64 ps) (.slice A4 q A4c)) := Lib.hid (heap_alloc_new v _)
  have hb' := Nm.Nb hb g
  have HZ' := Lib.hid (HZ.out.bt g)
  have S1' := Lib.hid (Nm.sbt S1.out g)
  have S2' := Lib.hid (Nm.sbt S2.out g)
  have S3' := Lib.hid (Nm.sbt S3.out g)
  have X1' := Lib.hid (X1.out.bt g)
  have S4' := Lib.hid (Nm.sbt S4.out g)
  clear g z0 z1 hb HZ S1 S2 S3 X1 S4
  have hb := hb'
  have HZ := HZ'
  have S1 := S1'
  have S2 := S2'
  have S3 := S3'
  have X1 := X1'
  have S4 := S4'
  clear hb' HZ' S1' S2' S3' X1' S4'
  have z0 := HZ.out.c0
  have z1 := HZ.out.c1
  obtain ⟨bX2, hbx⟩ : ∃ bx, v.heap.size = bx := ⟨_, rfl⟩
  rw [hbx] at X2 ⊢
  clear hbx
  generalize v.alloc (.cells #[.int .i64 ps, .slice A4 q A4c] 24) = uX2 at *
  have z2 := X1.out.c0
  have z3 := X1.out.c1
  have z4 := X2.out.c0
  have z5 := X2.out.c1
  have VA := Lib.hid (fun dq os => Calls.regrown_of (VP.out (Go.Sort.grow (redrawn uX2 dq) os) (Nm.Nb hb (below_regrown uX2 dq os))))
  have VB := Lib.hid (fun dq os => Calls.regrown_of (RV.out (Go.Sort.grow (redrawn uX2 dq) os) (Nm.Nb hb (below_regrown uX2 dq os))))
  have VC := Lib.hid (fun dq os => Calls.regrown_of (TT.out A1 c1 A2 c2 (Go.Sort.grow (redrawn uX2 dq) os) (Nm.sbt S1.out (below_regrown uX2 dq os)) (Nm.sbt S2.out (below_regrown uX2 dq os))))
  have hc0 := fun dq os => cell_regrown z0 dq os
  have hc1 := fun dq os => cell_regrown z1 dq os
  clear z0 z1
  refine wp_region_quiet_below (by kernel_rfl) (by kernel_rfl) ?_
  repeat (quiet_step (first | (go_at_call 15; exact VA.out _ _) | (go_at_call 16; exact VB.out _ _) | (go_at_call 17; exact VC.out _ _)))
  refine wpQuiet_nil ?_
  intro _ hw'
  obtain ⟨⟨dq, osq⟩, hw''⟩ := hw'
  subst hw''
  have g := below_regrown uX2 dq osq
  have hb5 := Nm.Nb hb g
  have SMX := Lib.hid (SM.out A3 A3c A4 A4c _ (Nm.sbt S3.out g) (Nm.sbt S4.out g))
  have Y2 := X1.out.bt g
  have Y3 := X2.out.bt g
  have y2 := Y2.c0
  have y3 := Y2.c1
  have y4 := Y3.c0
  have y5 := Y3.c1
  clear hc0 hc1 VA VB VC hb g Y2 Y3 z2 z3 z4 z5
  generalize Go.Sort.grow (redrawn uX2 dq) osq = w5 at *
  go_wp2_with fail
  refine SMX.out.mono ?_
  rintro e w6 ⟨rfl, g6⟩
  have hb6 := Nm.Nb hb5 g6
  clear g6 y2 y3 y4 y5
  go_wp2
  go_ret
  exact ⟨rfl, hb6⟩
end Go.Proofs.YtcjlnmfbanknhaaDoor
