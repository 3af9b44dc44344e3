/- Layer 7: the program's symbol and token. -/
import Derived.Test.YtkbnaendlcjjbaaDoorLxC
set_option linter.unusedSimpArgs false
set_option linter.unusedVariables false
namespace Go.Proofs.YtkbnaendlcjjbaaDoor
open Go.RowKit
set_option maxRecDepth 100000

def Lx.symF (c : UInt8) (r : List UInt8) : Lx.R :=
  if c.toNat == 33 then (if Lx.hd Lx.isEq r then .ok 4 0 ((c :: r).take 2) 2 else .err 3)
  else if c.toNat == 60 || c.toNat == 62 then (if Lx.hd Lx.isEq r then .ok 4 0 ((c :: r).take 2) 2 else .ok 4 0 [c] 1)
  else if Lx.isSign c then .ok 4 0 [c] 1
  else .err 3
theorem Lx.sym_cls (c : UInt8) : (c.toNat == 33) = decide ((Lx.cls c.toNat : Int) = 8) ∧ (c.toNat == 60 || c.toNat == 62) = decide ((Lx.cls c.toNat : Int) = 9) ∧ Lx.isSign c = (decide ((Lx.cls c.toNat : Int) = 10) || decide ((Lx.cls c.toNat : Int) = 11)) := by
  have : ∀ n : Fin 256, (n.val == 33) = decide ((Lx.cls n.val : Int) = 8) ∧ (n.val == 60 || n.val == 62) = decide ((Lx.cls n.val : Int) = 9) ∧ [59, 44, 46, 58, 40, 41, 91, 93, 123, 125, 43, 45, 61].contains n.val = (decide ((Lx.cls n.val : Int) = 10) || decide ((Lx.cls n.val : Int) = 11)) := by decide +kernel
  exact this ⟨c.toNat, UInt8.toNat_lt c⟩
theorem Lx.tok_cls (c : UInt8) : Lx.isLet c = decide ((Lx.cls c.toNat : Int) = 4) ∧ Lx.isDig c = decide ((Lx.cls c.toNat : Int) = 5) ∧ Lx.isQ c = decide ((Lx.cls c.toNat : Int) = 7) := by
  have : ∀ n : Fin 256, ((65 ≤ n.val && n.val ≤ 90) || (97 ≤ n.val && n.val ≤ 122)) = decide ((Lx.cls n.val : Int) = 4) ∧ (decide (48 ≤ n.val) && decide (n.val ≤ 57)) = decide ((Lx.cls n.val : Int) = 5) ∧ (n.val == 34) = decide ((Lx.cls n.val : Int) = 7) := by decide +kernel
  exact this ⟨c.toNat, UInt8.toNat_lt c⟩
theorem Lx.tokF_cls (c : UInt8) (r : List UInt8) : Lx.tokF (c :: r) = if (Lx.cls c.toNat : Int) = 4 then Lx.nameF (c :: r) else if (Lx.cls c.toNat : Int) = 5 then Lx.numF (c :: r) else if (Lx.cls c.toNat : Int) = 7 then Lx.quoF r else Lx.symF c r := by
  obtain ⟨h1, h2, h3⟩ := Lx.tok_cls c
  unfold Lx.nameF Lx.numF Lx.quoF Lx.symF
  simp only [Lx.tokF]
  rw [h1, h2, h3]
  simp only [decide_eq_true_eq]
theorem Lx.drop_at (t : ByteArray) (k : Nat) (hk : k < t.size) : t.data.toList.drop k = t[k]'hk :: t.data.toList.drop (k + 1) := by
  rw [List.drop_eq_getElem_cons (by simpa using hk)]
  have hx := Lib.data_getElem? t k hk
  rw [List.getElem?_eq_getElem (by simpa using hk)] at hx
  rw [Option.some.inj hx]

set_option maxHeartbeats 2000000 in
theorem Lx.symbol_any (b : Nat) (t : ByteArray) (k : Nat) (w : World) (hs : Sc w w.heap.size b t) (hk : k < t.size) (hm : t.size < 2 ^ 40) (x : UInt8) (hx : t[k]'hk = x) :
    Calls Tryd.prog 35 #[.pointer (some ⟨b, 0, none⟩), .int .i64 (k : Int)] w fun e w' => e = .returned (Lx.resV k (Lx.symF x (t.data.toList.drop (k + 1)))) ∧ Below w.heap.size w w' := by
  have hle : t.data.toList.length = t.size := by simp
  have S2 := Lib.hid (fun (v : World) (hb : Below w.heap.size w v) (A : Nat) (hA : A = v.heap.size) =>
    (Lx.has_any b t (k + 1) 1 ⟨A, 0, none⟩ [10] (v.alloc (.cells #[.int .u8 10] 41)) ((hs.bt hb).bt (Lx.al v _)) (by unfold maxLen; omega) (by unfold maxLen; omega) rfl (by omega) (by decide) (hA ▸ Cs.new v _ [10])).mono
      fun e u h => (⟨h.1.trans (by rw [Lx.hd_congr Lx.in_eq]), Lx.Nb (Lx.al v _) h.2⟩ : e = .returned (.bool (Lx.hd Lx.isEq (t.data.toList.drop ((k + 1))))) ∧ Below v.heap.size v u))
  have hdr := Lx.drop_at t k hk
  rw [hx] at hdr
  have hE1 := Lx.ext t k (k + 1) 1 rfl
  have hE2 := Lx.ext t k (k + 2) 2 rfl
  rw [hdr] at hE1 hE2
  have hF1 : t.extract k (k + 1) = ⟨([x] : List UInt8).toArray⟩ := hE1
  clear hE1
  have hXF : Lx.symF x (t.data.toList.drop (k + 1)) = Lx.symF x (t.data.toList.drop (k + 1)) := rfl
  obtain ⟨c1, c2, c3⟩ := Lx.sym_cls x
  conv at hXF => rhs; unfold Lx.symF; rw [c1, c2, c3]
  have hqe : Lx.hd Lx.isEq (t.data.toList.drop (k + 1)) = true → k + 1 < t.size := fun h => by have := (Lx.hd_true h).1; omega
  have hc := hs.cls x.toNat (by have := UInt8.toNat_lt x; omega)
  have ht := hs.text
  have hx256 : (x.toNat : Int) < 256 := by have := UInt8.toNat_lt x; omega
  have hx0 : (0 : Int) ≤ (x.toNat : Int) := by omega
  have HT := Lib.hid (fun (v : World) (hb : Below w.heap.size w v) => (hs.bt hb).text)
  have HCL := Lib.hid (fun (v : World) (hb : Below w.heap.size w v) => (hs.bt hb).cls x.toNat (by have := UInt8.toNat_lt x; omega))
  generalize ((Lx.cls x.toNat : Nat) : Int) = Y at *
  generalize Lx.symF x (t.data.toList.drop (k + 1)) = R at *
  generalize Lx.hd Lx.isEq (t.data.toList.drop (k + 1)) = bq at *
  generalize (x :: t.data.toList.drop (k + 1)).take 2 = D2 at *
  have HX := Lib.hid hXF
  have HE1 := Lib.hid hF1
  have HE2 := Lib.hid hE2
  have HQE := Lib.hid hqe
  have h1 : (0 : Int) ≤ (k : Int) := by omega
  have h2 : (k : Int) ≤ ((k + 1 : Nat) : Int) := by omega
  have h3 : ((k + 1 : Nat) : Int) ≤ (t.size : Int) := by omega
  have h8 : (k : Int) ≤ ((k + 2 : Nat) : Int) := by omega
  have h5 : IntKind.i64.wrap ((k : Int) + 1) = ((k + 1 : Nat) : Int) := by rw [IntKind.wrap_i64]; omega
  have h6 : IntKind.i64.wrap (((k + 1 : Nat) : Int) + 1) = ((k + 2 : Nat) : Int) := by rw [IntKind.wrap_i64]; omega
  have h7 : IntKind.i64.wrap ((k : Int) + 2) = ((k + 2 : Nat) : Int) := by rw [IntKind.wrap_i64]; omega
  have H9 : Hid (bq = true → ((k + 2 : Nat) : Int) ≤ (t.size : Int)) := Lib.hid (fun h => by have := hqe h; omega)
  have hkt : k < t.size := hk
  have hki : (k : Int) < (t.size : Int) := by omega
  clear hs hc ht hdr hF1 hE2 hXF c1 c2 c3 hqe
  generalize hk1 : k + 1 = k1 at *
  generalize hk2 : k + 2 = k2 at *
  have HK1 := Lib.hid hk1
  have HK2 := Lib.hid hk2
  clear hk1 hk2
  go_enter Tryd.func35, Tryd.ntmps35
  have hbA := Lx.al w (.cells #[.int .i64 0, .int .i64 0, .int .i64 0, .string ⟨#[]⟩] 30)
  have ht := HT.out _ hbA
  have hc := HCL.out _ hbA
  go_wp2_with fail
  go_quiet (fail)
  have TB := Lib.hid (Tb.new w #[.int .i64 0, .int .i64 0, .int .i64 0, .string ⟨#[]⟩])
  have hbq := Lx.drewN_below (w.alloc (.cells #[.int .i64 0, .int .i64 0, .int .i64 0, .string ⟨#[]⟩] 30)) nq
  have TBq := Lib.hid (TB.out.bt hbq)
  have hb := Lx.Nb hbA hbq
  generalize (w.alloc (.cells #[.int .i64 0, .int .i64 0, .int .i64 0, .string ⟨#[]⟩] 30)).drewN nq = v at *
  clear TB hbA hbq hc ht HCL
  have ht := HT.out _ hb
  have C2 := Lib.hid (S2.out v hb v.heap.size rfl)
  clear S2
  by_cases e8 : Y = 8
  · subst e8
    cases bq
    · have HR : Hid (R = .err 3) := Lib.hid (by rw [HX.out]; simp)
      clear HX
      go_wp2_with fail
      refine C2.out.mono ?_
      rintro e w2 ⟨rfl, hb2⟩
      have TB2 := Lib.hid (TBq.out.bt hb2)
      have hb3 := Lx.Nb hb hb2
      have ht2 := HT.out _ hb3
      clear TBq hb2 C2 hb ht
      go_wp2_with (refine wpList_store_row rfl _ _ _ rfl w.heap.size _ rfl rfl 30 _ TB2.out (Lx.info30.trans rfl) rfl (by simp [Value.oneCell']) ?_)
      (try simp only [Exit.inBlock, Exit.then])
      refine bodyPost_ret (Lx.results3 rfl _ _ w.heap.size 30 _ rfl (TB2.out.set _) Tryd.underlying30 (Lx.info30.trans rfl)) rfl ⟨?_, below_setRow hb3 (Nat.le_refl _) _⟩
      rw [HR.out]; rfl
    · have HR : Hid (R = .ok 4 0 D2 2) := Lib.hid (by rw [HX.out]; simp)
      have h9 := H9.out rfl
      clear HX
      go_wp2_with fail
      refine C2.out.mono ?_
      rintro e w2 ⟨rfl, hb2⟩
      have TB2 := Lib.hid (TBq.out.bt hb2)
      have hb3 := Lx.Nb hb hb2
      have ht2 := HT.out _ hb3
      clear TBq hb2 C2 hb ht
      go_wp2_with (refine wpList_store_row rfl _ _ _ rfl w.heap.size _ rfl rfl 30 _ TB2.out (Lx.info30.trans rfl) rfl (by simp [Value.oneCell']) ?_)
      (try simp only [Exit.inBlock, Exit.then])
      refine bodyPost_ret (Lx.results3 rfl _ _ w.heap.size 30 _ rfl (TB2.out.set _) Tryd.underlying30 (Lx.info30.trans rfl)) rfl ⟨?_, below_setRow hb3 (Nat.le_refl _) _⟩
      rw [HR.out, HE2.out, ← HK2.out]; rfl
  by_cases e9 : Y = 9
  · subst e9
    cases bq
    · have HR : Hid (R = .ok 4 0 [x] 1) := Lib.hid (by rw [HX.out]; simp)
      clear HX e8
      go_wp2_with fail
      refine C2.out.mono ?_
      rintro e w2 ⟨rfl, hb2⟩
      have TB2 := Lib.hid (TBq.out.bt hb2)
      have hb3 := Lx.Nb hb hb2
      have ht2 := HT.out _ hb3
      clear TBq hb2 C2 hb ht
      go_wp2_with (refine wpList_store_row rfl _ _ _ rfl w.heap.size _ rfl rfl 30 _ TB2.out (Lx.info30.trans rfl) rfl (by simp [Value.oneCell']) ?_)
      (try simp only [Exit.inBlock, Exit.then])
      refine bodyPost_ret (Lx.results3 rfl _ _ w.heap.size 30 _ rfl (TB2.out.set _) Tryd.underlying30 (Lx.info30.trans rfl)) rfl ⟨?_, below_setRow hb3 (Nat.le_refl _) _⟩
      rw [HR.out, HE1.out, ← HK1.out]; rfl
    · have HR : Hid (R = .ok 4 0 D2 2) := Lib.hid (by rw [HX.out]; simp)
      have h9 := H9.out rfl
      clear HX e8
      go_wp2_with fail
      refine C2.out.mono ?_
      rintro e w2 ⟨rfl, hb2⟩
      have TB2 := Lib.hid (TBq.out.bt hb2)
      have hb3 := Lx.Nb hb hb2
      have ht2 := HT.out _ hb3
      clear TBq hb2 C2 hb ht
      go_wp2_with (refine wpList_store_row rfl _ _ _ rfl w.heap.size _ rfl rfl 30 _ TB2.out (Lx.info30.trans rfl) rfl (by simp [Value.oneCell']) ?_)
      (try simp only [Exit.inBlock, Exit.then])
      refine bodyPost_ret (Lx.results3 rfl _ _ w.heap.size 30 _ rfl (TB2.out.set _) Tryd.underlying30 (Lx.info30.trans rfl)) rfl ⟨?_, below_setRow hb3 (Nat.le_refl _) _⟩
      rw [HR.out, HE2.out, ← HK2.out]; rfl
  have f8 : (Y == 8) = false := by simpa using e8
  have f9 : (Y == 9) = false := by simpa using e9
  by_cases e10 : Y = 10
  · subst e10
    have HR : Hid (R = .ok 4 0 [x] 1) := Lib.hid (by rw [HX.out]; simp)
    clear HX e8 e9 f8 f9 C2
    go_wp2_with (refine wpList_store_row rfl _ _ _ rfl w.heap.size _ rfl rfl 30 _ TBq.out (Lx.info30.trans rfl) rfl (by simp [Value.oneCell']) ?_)
    (try simp only [Exit.inBlock, Exit.then])
    refine bodyPost_ret (Lx.results3 rfl _ _ w.heap.size 30 _ rfl (TBq.out.set _) Tryd.underlying30 (Lx.info30.trans rfl)) rfl ⟨?_, below_setRow hb (Nat.le_refl _) _⟩
    rw [HR.out, HE1.out, ← HK1.out]; rfl
  have f10 : (Y == 10) = false := by simpa using e10
  by_cases e11 : Y = 11
  · subst e11
    have HR : Hid (R = .ok 4 0 [x] 1) := Lib.hid (by rw [HX.out]; simp)
    clear HX e8 e9 f8 f9 f10 e10 C2
    go_wp2_with (refine wpList_store_row rfl _ _ _ rfl w.heap.size _ rfl rfl 30 _ TBq.out (Lx.info30.trans rfl) rfl (by simp [Value.oneCell']) ?_)
    (try simp only [Exit.inBlock, Exit.then])
    refine bodyPost_ret (Lx.results3 rfl _ _ w.heap.size 30 _ rfl (TBq.out.set _) Tryd.underlying30 (Lx.info30.trans rfl)) rfl ⟨?_, below_setRow hb (Nat.le_refl _) _⟩
    rw [HR.out, HE1.out, ← HK1.out]; rfl
  · have f11 : (Y == 11) = false := by simpa using e11
    have HR : Hid (R = .err 3) := Lib.hid (by rw [HX.out]; simp [e8, e9, e10, e11])
    clear HX C2
    go_wp2_with (refine wpList_store_row rfl _ _ _ rfl w.heap.size _ rfl rfl 30 _ TBq.out (Lx.info30.trans rfl) rfl (by simp [Value.oneCell']) ?_)
    (try simp only [Exit.inBlock, Exit.then])
    refine bodyPost_ret (Lx.results3 rfl _ _ w.heap.size 30 _ rfl (TBq.out.set _) Tryd.underlying30 (Lx.info30.trans rfl)) rfl ⟨?_, below_setRow hb (Nat.le_refl _) _⟩
    rw [HR.out]; rfl

theorem Lx.res_form (k : Nat) (R : Lx.R) : ∃ c0 c1 c2 c3 r1 r2, Lx.resV k R = .tuple #[.agg #[c0, c1, c2, c3], r1, r2] ∧ (#[c0, c1, c2, c3] : Array Value).all (·.oneCell') = true := by
  cases R with
  | err e => exact ⟨_, _, _, _, _, _, rfl, by simp [Value.oneCell']⟩
  | ok kd n tx w => exact ⟨_, _, _, _, _, _, rfl, by simp [Value.oneCell']⟩
def Lx.Res4 (V : Value) (c0 c1 c2 c3 r1 r2 : Value) : Prop := V = .tuple #[.agg #[c0, c1, c2, c3], r1, r2] ∧ (#[c0, c1, c2, c3] : Array Value).all (·.oneCell') = true

set_option maxHeartbeats 2000000 in
theorem Lx.token_any (b : Nat) (t : ByteArray) (k : Nat) (w : World) (hs : Sc w w.heap.size b t) (hk : k < t.size) (hm : t.size < 2 ^ 40) :
    Calls Tryd.prog 24 #[.pointer (some ⟨b, 0, none⟩), .int .i64 (k : Int)] w fun e w' => e = .returned (Lx.resV k (Lx.tokF (t.data.toList.drop k))) ∧ Below w.heap.size w w' := by
  have hdr := Lx.drop_at t k hk
  obtain ⟨x, hx⟩ : ∃ x : UInt8, t[k]'hk = x := ⟨_, rfl⟩
  rw [hx] at hdr
  have hXF := Lx.tokF_cls x (t.data.toList.drop (k + 1))
  rw [← hdr] at hXF
  have hdg : Lx.isDig x = true → Lx.hd Lx.isDig (t.data.toList.drop k) = true := fun h => by rw [hdr]; exact h
  obtain ⟨_, c5, _⟩ := Lx.tok_cls x
  rw [c5] at hdg
  have C4 := Lib.hid (fun (v : World) (hb : Below w.heap.size w v) => Lx.name_any b t k v (hs.bt hb) (by omega) hm)
  have C5 := Lib.hid (fun (h : (Lx.cls x.toNat : Int) = 5) (v : World) (hb : Below w.heap.size w v) => Lx.number_any b t k v (hs.bt hb) (by omega) hm (hdg (by rw [decide_eq_true h])))
  have C7 := Lib.hid (fun (v : World) (hb : Below w.heap.size w v) => Lx.quoted_any b t k v (hs.bt hb) hk hm)
  have C0 := Lib.hid (fun (v : World) (hb : Below w.heap.size w v) => Lx.symbol_any b t k v (hs.bt hb) hk hm x hx)
  have HT := Lib.hid (fun (v : World) (hb : Below w.heap.size w v) => (hs.bt hb).text)
  have HCL := Lib.hid (fun (v : World) (hb : Below w.heap.size w v) => (hs.bt hb).cls x.toNat (by have := UInt8.toNat_lt x; omega))
  have hx256 : (x.toNat : Int) < 256 := by have := UInt8.toNat_lt x; omega
  have hx0 : (0 : Int) ≤ (x.toNat : Int) := by omega
  have h1 : (0 : Int) ≤ (k : Int) := by omega
  have hki : (k : Int) < (t.size : Int) := by omega
  generalize ((Lx.cls x.toNat : Nat) : Int) = Y at *
  generalize Lx.tokF (t.data.toList.drop k) = R at *
  generalize Lx.nameF (t.data.toList.drop k) = R4 at *
  generalize Lx.numF (t.data.toList.drop k) = R5 at *
  generalize Lx.quoF (t.data.toList.drop (k + 1)) = R7 at *
  generalize Lx.symF x (t.data.toList.drop (k + 1)) = R0 at *
  clear hs hdr hdg c5
  have HX := Lib.hid hXF
  clear hXF
  go_enter Tryd.func24, Tryd.ntmps24
  have hbA := Lx.al w (.cells #[.int .i64 0, .int .i64 0, .int .i64 0, .string ⟨#[]⟩] 30)
  have ht := HT.out _ hbA
  have hc := HCL.out _ hbA
  go_wp2_with fail
  go_quiet (fail)
  have TB := Lib.hid (Tb.new w #[.int .i64 0, .int .i64 0, .int .i64 0, .string ⟨#[]⟩])
  have hbq := Lx.drewN_below (w.alloc (.cells #[.int .i64 0, .int .i64 0, .int .i64 0, .string ⟨#[]⟩] 30)) nq
  have TBq := Lib.hid (TB.out.bt hbq)
  have hb := Lx.Nb hbA hbq
  generalize (w.alloc (.cells #[.int .i64 0, .int .i64 0, .int .i64 0, .string ⟨#[]⟩] 30)).drewN nq = v at *
  clear TB hbA hbq hc ht HCL HT
  by_cases e4 : Y = 4
  · subst e4
    have HR : Hid (R = R4) := Lib.hid (by rw [HX.out]; simp)
    have C := Lib.hid (C4.out)
    clear C0 C4 C5 C7 HX
    go_wp2_with fail
    refine (C.out v hb).mono ?_
    rintro e w2 ⟨rfl, hb2⟩
    have TB2 := Lib.hid (TBq.out.bt hb2)
    have hb3 := Lx.Nb hb hb2
    clear TBq hb2 C hb
    obtain ⟨c0, c1, c2, c3, r1, r2, he, h1c⟩ := Lx.res_form k R4
    rw [he]
    have HE := Lib.hid he
    have H1C := Lib.hid h1c
    clear he h1c
    go_wp2_with (refine wpList_store_row rfl _ _ _ rfl w.heap.size _ rfl rfl 30 _ TB2.out (Lx.info30.trans rfl) rfl H1C.out ?_)
    (try simp only [Exit.inBlock, Exit.then])
    refine bodyPost_ret (Lx.results3 rfl _ _ w.heap.size 30 _ rfl (TB2.out.set _) Tryd.underlying30 (Lx.info30.trans rfl)) rfl ⟨?_, below_setRow hb3 (Nat.le_refl _) _⟩
    rw [HR.out]; exact congrArg Ending.returned HE.out.symm
  have f4 : (Y == 4) = false := by simpa using e4
  by_cases e5 : Y = 5
  · subst e5
    have HR : Hid (R = R5) := Lib.hid (by rw [HX.out]; simp)
    have C := Lib.hid (C5.out rfl)
    clear C0 C4 C5 C7 HX
    go_wp2_with fail
    refine (C.out v hb).mono ?_
    rintro e w2 ⟨rfl, hb2⟩
    have TB2 := Lib.hid (TBq.out.bt hb2)
    have hb3 := Lx.Nb hb hb2
    clear TBq hb2 C hb
    obtain ⟨c0, c1, c2, c3, r1, r2, he, h1c⟩ := Lx.res_form k R5
    rw [he]
    have HE := Lib.hid he
    have H1C := Lib.hid h1c
    clear he h1c
    go_wp2_with (refine wpList_store_row rfl _ _ _ rfl w.heap.size _ rfl rfl 30 _ TB2.out (Lx.info30.trans rfl) rfl H1C.out ?_)
    (try simp only [Exit.inBlock, Exit.then])
    refine bodyPost_ret (Lx.results3 rfl _ _ w.heap.size 30 _ rfl (TB2.out.set _) Tryd.underlying30 (Lx.info30.trans rfl)) rfl ⟨?_, below_setRow hb3 (Nat.le_refl _) _⟩
    rw [HR.out]; exact congrArg Ending.returned HE.out.symm
  have f5 : (Y == 5) = false := by simpa using e5
  by_cases e7 : Y = 7
  · subst e7
    have HR : Hid (R = R7) := Lib.hid (by rw [HX.out]; simp)
    have C := Lib.hid (C7.out)
    clear C0 C4 C5 C7 HX
    go_wp2_with fail
    refine (C.out v hb).mono ?_
    rintro e w2 ⟨rfl, hb2⟩
    have TB2 := Lib.hid (TBq.out.bt hb2)
    have hb3 := Lx.Nb hb hb2
    clear TBq hb2 C hb
    obtain ⟨c0, c1, c2, c3, r1, r2, he, h1c⟩ := Lx.res_form k R7
    rw [he]
    have HE := Lib.hid he
    have H1C := Lib.hid h1c
    clear he h1c
    go_wp2_with (refine wpList_store_row rfl _ _ _ rfl w.heap.size _ rfl rfl 30 _ TB2.out (Lx.info30.trans rfl) rfl H1C.out ?_)
    (try simp only [Exit.inBlock, Exit.then])
    refine bodyPost_ret (Lx.results3 rfl _ _ w.heap.size 30 _ rfl (TB2.out.set _) Tryd.underlying30 (Lx.info30.trans rfl)) rfl ⟨?_, below_setRow hb3 (Nat.le_refl _) _⟩
    rw [HR.out]; exact congrArg Ending.returned HE.out.symm
  · have f7 : (Y == 7) = false := by simpa using e7
    have HR : Hid (R = R0) := Lib.hid (by rw [HX.out]; simp [e4, e5, e7])
    have C := Lib.hid (C0.out)
    clear C0 C4 C5 C7 HX
    go_wp2_with fail
    refine (C.out v hb).mono ?_
    rintro e w2 ⟨rfl, hb2⟩
    have TB2 := Lib.hid (TBq.out.bt hb2)
    have hb3 := Lx.Nb hb hb2
    clear TBq hb2 C hb
    obtain ⟨c0, c1, c2, c3, r1, r2, he, h1c⟩ := Lx.res_form k R0
    rw [he]
    have HE := Lib.hid he
    have H1C := Lib.hid h1c
    clear he h1c
    go_wp2_with (refine wpList_store_row rfl _ _ _ rfl w.heap.size _ rfl rfl 30 _ TB2.out (Lx.info30.trans rfl) rfl H1C.out ?_)
    (try simp only [Exit.inBlock, Exit.then])
    refine bodyPost_ret (Lx.results3 rfl _ _ w.heap.size 30 _ rfl (TB2.out.set _) Tryd.underlying30 (Lx.info30.trans rfl)) rfl ⟨?_, below_setRow hb3 (Nat.le_refl _) _⟩
    rw [HR.out]; exact congrArg Ending.returned HE.out.symm
end Go.Proofs.YtkbnaendlcjjbaaDoor
