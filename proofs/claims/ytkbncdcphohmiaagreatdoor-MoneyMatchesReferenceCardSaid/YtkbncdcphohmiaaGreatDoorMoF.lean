/- Layer 8: the rate of a currency on a day: find of the table, Find, Valid. -/
import Derived.Test.YtkbncdcphohmiaaGreatDoorMoE
set_option linter.unusedSimpArgs false
set_option linter.unusedVariables false
namespace Go.Proofs.YtkbncdcphohmiaaGreatDoor
open Go.RowKit Go.ChangeMaps
set_option maxRecDepth 100000

theorem Mo.top_find {l : List Mo.Rt} {base c : ByteArray} {day : Int} {f : Bool} {x : Mo.Rt} (h : Mo.Top (Mo.base base :: l) c day f x) (hv : Mo.valid l base = true) (hc : Mo.ident c.data.toList = true) (hd : Mo.dayOk day = true) :
    Mo.find l base c day = if f then (x, 0) else (.zero, 11) := by
  have hv' := hv
  simp only [Mo.valid, Bool.and_eq_true, decide_eq_true_eq] at hv'
  have hok : ∀ y ∈ l, y.cur ≠ base ∧ 0 ≤ y.day := fun y hy => by
    have := List.all_eq_true.1 hv'.2.2.1 y hy
    simp only [Mo.okR, Mo.dayOk, Bool.and_eq_true, decide_eq_true_eq, Bool.not_eq_true', decide_eq_false_iff_not] at this
    exact ⟨this.2.1, this.2.2.1.1⟩
  have h0 : 0 ≤ day := by
    simp only [Mo.dayOk, Bool.and_eq_true, decide_eq_true_eq] at hd
    exact hd.1
  unfold Mo.find
  rw [hv, hc, hd, if_neg (by simp)]
  by_cases hcb : c = base
  · rw [if_pos hcb]
    have hf : Mo.fits c day (Mo.base base) := ⟨hcb.symm, h0⟩
    rcases h with ⟨rfl, rfl, h⟩ | ⟨rfl, h1, h2, h3⟩
    · exact absurd hf (h _ (by simp))
    · rcases List.mem_cons.1 h1 with rfl | h1
      · rfl
      · exact absurd (h2.1.trans hcb) (hok x h1).1
  · rw [if_neg hcb]
    rcases h with ⟨rfl, rfl, h⟩ | ⟨rfl, h1, h2, h3⟩
    · have e : Mo.best l c day = Mo.noRate := Mo.IsBest.one hv'.2.2.2 (Mo.best_is c day _ l rfl) (.inl ⟨rfl, fun y hy hf => absurd hf (h y (by simp [hy]))⟩)
      rw [e, if_pos (show Mo.noRate.day < 0 by decide)]
      rfl
    · rcases List.mem_cons.1 h1 with rfl | h1
      · exact absurd h2.1.symm hcb
      · have e : Mo.best l c day = x := Mo.IsBest.one hv'.2.2.2 (Mo.best_is c day _ l rfl) (.inr ⟨(hok x h1).2, h1, h2, fun y hy hf => h3 y (by simp [hy]) hf⟩)
        rw [e, if_neg (by have := (hok x h1).2; omega)]
        rfl
theorem Mo.find_bad (l : List Mo.Rt) (base c : ByteArray) (day : Int) (h : (Mo.valid l base && (Mo.ident c.data.toList && Mo.dayOk day)) = false) : Mo.find l base c day = (.zero, 1) := by
  unfold Mo.find
  rw [if_pos h]

/-- A rate and an error, as they are returned. -/
def Mo.ret (r : Mo.Rt × Int) : Ending := .returned (.tuple #[.agg #[.string r.1.cur, .int .i64 r.1.day, .int .i64 r.1.num, .int .i64 r.1.den], .int .i64 r.2])

set_option maxHeartbeats 4000000 in
theorem Mo.find_any (b : Nat) (l : List Mo.Rt) (base c : ByteArray) (day : Int) (w : World) (hT : Mo.Tab w b (Mo.base base :: l)) (hv : Mo.valid l base = true) (hc : c.size ≤ maxLen) :
    Calls Tryz.prog 35 #[.map (some b), .string c, .int .i64 day] w fun e w' => e = Mo.ret (Mo.find l base c day) ∧ Below w.heap.size w w' := by
  have C1 := Lib.hid (fun v => Mo.cur_any c hc v)
  have C2 := Lib.hid (fun v => Mo.day_any day v)
  have B3 : Hid (Below w.heap.size w (((w.alloc (.cells #[.string c] 9)).alloc (.cells #[.int .i64 day] 3)).alloc (.cells #[.string ⟨#[]⟩, .int .i64 0, .int .i64 0, .int .i64 0] 27))) := Lib.hid (Mo.Nb (Mo.Nb (Mo.al w _) (Mo.al _ _)) (Mo.al _ _))
  have K6 : Hid (Bk (((w.alloc (.cells #[.string c] 9)).alloc (.cells #[.int .i64 day] 3)).alloc (.cells #[.string ⟨#[]⟩, .int .i64 0, .int .i64 0, .int .i64 0] 27)) (w.heap.size + 2) 27 #[.string ⟨#[]⟩, .int .i64 0, .int .i64 0, .int .i64 0]) := Lib.hid (by
    have := Bk.new ((w.alloc (.cells #[.string c] 9)).alloc (.cells #[.int .i64 day] 3)) 27 #[.string ⟨#[]⟩, .int .i64 0, .int .i64 0, .int .i64 0]
    simp only [World.size_alloc] at this
    exact this)
  have H4 := Lib.hid ((((Bk.new w 9 #[.string c]).bt (Mo.al _ (.cells #[.int .i64 day] 3))).bt (Mo.al _ (.cells #[.string ⟨#[]⟩, .int .i64 0, .int .i64 0, .int .i64 0] 27))).cell 0 _ rfl)
  have H5 : Hid ((((w.alloc (.cells #[.string c] 9)).alloc (.cells #[.int .i64 day] 3)).alloc (.cells #[.string ⟨#[]⟩, .int .i64 0, .int .i64 0, .int .i64 0] 27)).cell? ⟨w.heap.size + 1, 0, none⟩ = some (.int .i64 day)) := Lib.hid (by
    have := ((Bk.new (w.alloc (.cells #[.string c] 9)) 3 #[.int .i64 day]).bt (Mo.al _ (.cells #[.string ⟨#[]⟩, .int .i64 0, .int .i64 0, .int .i64 0] 27))).cell 0 _ rfl
    simp only [World.size_alloc] at this
    exact this)
  cases hi : Mo.ident c.data.toList with
  | false =>
    have HR : Hid (Mo.find l base c day = (.zero, 1)) := Lib.hid (Mo.find_bad l base c day (by rw [hi]; simp))
    rw [hi] at C1
    clear hi hT hv
    go_enter Tryz.func35, Tryz.ntmps35
    go_wp2_with (first | (go_at_call 65; with_reducible refine (C1.out _).mono ?_; rintro e w1 ⟨rfl, rfl⟩) | (refine wpList_store_row rfl _ _ _ rfl (w.heap.size + 2) _ rfl rfl 27 _ K6.out (Mo.info_rate.trans rfl) rfl (by simp [Value.oneCell']) ?_))
    (try simp only [Exit.inBlock, Exit.then])
    exact bodyPost_ret (Mo.results2 (i := 6) (j := 7) rfl _ _ (w.heap.size + 2) 27 _ rfl (K6.out.set _) Tryz.underlying27 (Mo.info_rate.trans rfl)) rfl ⟨by rw [HR.out]; rfl, below_setRow B3.out (by omega) _⟩
  | true =>
  cases hd : Mo.dayOk day with
  | false =>
    have HR : Hid (Mo.find l base c day = (.zero, 1)) := Lib.hid (Mo.find_bad l base c day (by rw [hd]; simp))
    rw [hi] at C1
    rw [hd] at C2
    clear hi hT hv hd
    go_enter Tryz.func35, Tryz.ntmps35
    go_wp2_with (first | (go_at_call 65; with_reducible refine (C1.out _).mono ?_; rintro e w1 ⟨rfl, rfl⟩) | (go_at_call 67; with_reducible refine (C2.out _).mono ?_; rintro e w1 ⟨rfl, rfl⟩) | (refine wpList_store_row rfl _ _ _ rfl (w.heap.size + 2) _ rfl rfl 27 _ K6.out (Mo.info_rate.trans rfl) rfl (by simp [Value.oneCell']) ?_))
    (try simp only [Exit.inBlock, Exit.then])
    exact bodyPost_ret (Mo.results2 (i := 6) (j := 7) rfl _ _ (w.heap.size + 2) 27 _ rfl (K6.out.set _) Tryz.underlying27 (Mo.info_rate.trans rfl)) rfl ⟨by rw [HR.out]; rfl, below_setRow B3.out (by omega) _⟩
  | true =>
  have HF : Hid (∀ f x, Mo.Top (Mo.base base :: l) c day f x → Mo.find l base c day = if f then (x, 0) else (.zero, 11)) := Lib.hid (fun f x h => Mo.top_find h hv hi hd)
  have CL : Hid (∀ v, Below w.heap.size w v → w.heap.size + 2 < v.heap.size → v.cell? ⟨w.heap.size, 0, none⟩ = some (.string c) → v.cell? ⟨w.heap.size + 1, 0, none⟩ = some (.int .i64 day) → Calls Tryz.prog 68 #[.map (some b), .func (.func 69) #[] #[.pointer (some ⟨w.heap.size, 0, none⟩), .pointer (some ⟨w.heap.size + 1, 0, none⟩)]] v (Mo.LatP (Mo.base base :: l) c day v)) :=
    Lib.hid (fun v h hz h4 h5 => Mo.latest_any b _ c day _ _ v (hT.bt h) h4 h5 (by omega) (by omega))
  rw [hi] at C1
  rw [hd] at C2
  clear hi hT hv hd
  go_enter Tryz.func35, Tryz.ntmps35
  go_wp2_with fail
  refine (C1.out _).mono ?_
  rintro e w1 ⟨rfl, rfl⟩
  go_wp2_with fail
  refine (C2.out _).mono ?_
  rintro e w1 ⟨rfl, rfl⟩
  go_wp2_with fail
  refine (CL.out _ B3.out (by simp) H4.out H5.out).mono ?_
  rintro e w3 ⟨x, f, rfl, hx, hb3⟩
  have HX : Hid (Mo.find l base c day = if f then (x, 0) else (.zero, 11)) := Lib.hid (HF.out f x hx)
  have K7 := Lib.hid (K6.out.bt hb3)
  have B4 := Lib.hid (Mo.Nb B3.out hb3)
  have HZ : Hid (w.heap.size + 2 < w3.heap.size) := Lib.hid (by have := hb3.size; simp at this; omega)
  clear hx hb3 HF CL C1 C2 B3 K6
  have K8 : Hid (∀ o, Bk (w3.alloc o) (w.heap.size + 2) 27 #[.string ⟨#[]⟩, .int .i64 0, .int .i64 0, .int .i64 0]) := Lib.hid (fun o => K7.out.bt (Mo.al _ _))
  have B5 : Hid (∀ o, Below w.heap.size w (w3.alloc o)) := Lib.hid (fun o => Mo.Nb B4.out (Mo.al _ _))
  cases f with
  | false =>
    go_wp2_with (refine wpList_store_row rfl _ _ _ rfl (w.heap.size + 2) _ rfl rfl 27 _ (K8.out _) (Mo.info_rate.trans rfl) rfl (by simp [Value.oneCell']) ?_)
    (try simp only [Exit.inBlock, Exit.then])
    exact bodyPost_ret (Mo.results2 (i := 6) (j := 7) rfl _ _ (w.heap.size + 2) 27 _ rfl ((K8.out _).set _) Tryz.underlying27 (Mo.info_rate.trans rfl)) rfl ⟨by rw [HX.out]; rfl, below_setRow (B5.out _) (by omega) _⟩
  | true =>
    go_wp2_with (refine wpList_store_row rfl _ _ _ rfl (w.heap.size + 2) _ rfl rfl 27 _ (K8.out _) (Mo.info_rate.trans rfl) rfl (by simp [Value.oneCell']) ?_)
    (try simp only [Exit.inBlock, Exit.then])
    exact bodyPost_ret (Mo.results2 (i := 6) (j := 7) rfl _ _ (w.heap.size + 2) 27 _ rfl ((K8.out _).set _) Tryz.underlying27 (Mo.info_rate.trans rfl)) rfl ⟨by rw [HX.out]; rfl, below_setRow (B5.out _) (by omega) _⟩

theorem Mo.valid_any (A : Option Addr) (cp : Nat) (l : List Mo.Rt) (base : ByteArray) (w : World) (hl : Mo.Rts w w.heap.size A l) (hg : Mo.AllGood l) (hbs : base.size ≤ maxLen) (hlen : l.length ≤ maxLen) :
    Calls Tryz.prog 19 #[.slice A l.length cp, .string base] w fun e w' => e = .returned (.bool (Mo.valid l base)) ∧ Below w.heap.size w w' := by
  have C1 := Lib.hid (fun v (h : Below w.heap.size w v) => Mo.table_any A cp l base v (hl.bt h) hg hbs hlen)
  clear hl hg hlen
  generalize l.length = n at *
  go_enter Tryz.func19, Tryz.ntmps19
  go_wp2_with fail
  refine (C1.out _ (Below.refl _ _)).mono ?_
  rintro e w1 ⟨hb, ⟨hv, rfl⟩ | ⟨hv, rfl, _⟩⟩
  · have HV := Lib.hid hv
    clear hv
    go_wp2
    go_ret
    exact ⟨by rw [HV.out]; rfl, hb⟩
  · have HV := Lib.hid hv
    clear hv
    go_wp2
    go_ret
    exact ⟨by rw [HV.out]; rfl, hb⟩

set_option maxHeartbeats 2000000 in
theorem Mo.Find_any (A : Option Addr) (cp : Nat) (l : List Mo.Rt) (base c : ByteArray) (day : Int) (w : World) (hl : Mo.Rts w w.heap.size A l) (hg : Mo.AllGood l) (hbs : base.size ≤ maxLen) (hcs : c.size ≤ maxLen) (hlen : l.length ≤ maxLen) :
    Calls Tryz.prog 11 #[.slice A l.length cp, .string base, .string c, .int .i64 day] w fun e w' => e = Mo.ret (Mo.find l base c day) ∧ Below w.heap.size w w' := by
  have C1 := Lib.hid (fun v (h : Below w.heap.size w v) => Mo.table_any A cp l base v (hl.bt h) hg hbs hlen)
  have C2 := Lib.hid (fun b v (hT : Mo.Tab v b (Mo.base base :: l)) (hv : Mo.valid l base = true) => Mo.find_any b l base c day v hT hv hcs)
  have HBD : Hid (Mo.valid l base = false → Mo.find l base c day = (.zero, 1)) := Lib.hid (fun h => Mo.find_bad l base c day (by rw [h]; rfl))
  have B1 := Lib.hid (Mo.al w (.cells #[.string ⟨#[]⟩, .int .i64 0, .int .i64 0, .int .i64 0] 27))
  have K8 := Lib.hid (Bk.new w 27 #[.string ⟨#[]⟩, .int .i64 0, .int .i64 0, .int .i64 0])
  clear hl hg hlen
  generalize l.length = n at *
  generalize Mo.find l base c day = r at *
  go_enter Tryz.func11, Tryz.ntmps11
  go_wp2_with fail
  refine (C1.out _ B1.out).mono ?_
  rintro e w1 ⟨hb, ⟨hv, rfl⟩ | ⟨hv, rfl, hT⟩⟩
  · have HR := Lib.hid (HBD.out hv)
    have B2 := Lib.hid (Mo.Nb B1.out hb)
    have K9 := Lib.hid (K8.out.bt hb)
    clear hv hb B1 K8 C2 C1 HBD
    go_wp2_with (refine wpList_store_row rfl _ _ _ rfl w.heap.size _ rfl rfl 27 _ K9.out (Mo.info_rate.trans rfl) rfl (by simp [Value.oneCell']) ?_)
    (try simp only [Exit.inBlock, Exit.then])
    exact bodyPost_ret (Mo.results2 (i := 8) (j := 9) rfl _ _ w.heap.size 27 _ rfl (K9.out.set _) Tryz.underlying27 (Mo.info_rate.trans rfl)) rfl ⟨by rw [HR.out]; rfl, below_setRow B2.out (Nat.le_refl _) _⟩
  · have B2 := Lib.hid (Mo.Nb B1.out hb)
    have K9 := Lib.hid (K8.out.bt hb)
    have C3 := Lib.hid (C2.out _ w1 hT hv)
    clear hv hb B1 K8 C2 C1 HBD hT
    simp only [World.size_alloc] at C3 ⊢
    go_wp2_with fail
    refine C3.out.mono ?_
    rintro e w2 ⟨rfl, hb2⟩
    have B3 := Lib.hid (Mo.Nb B2.out hb2)
    have K10 := Lib.hid (K9.out.bt hb2)
    clear hb2 B2 K9 C3
    unfold Mo.ret
    go_wp2_with (refine wpList_store_row rfl _ _ _ rfl w.heap.size _ rfl rfl 27 _ K10.out (Mo.info_rate.trans rfl) rfl (by simp [Value.oneCell']) ?_)
    (try simp only [Exit.inBlock, Exit.then])
    exact bodyPost_ret (Mo.results2 (i := 8) (j := 9) rfl _ _ w.heap.size 27 _ rfl (K10.out.set _) Tryz.underlying27 (Mo.info_rate.trans rfl)) rfl ⟨rfl, below_setRow B3.out (Nat.le_refl _) _⟩
end Go.Proofs.YtkbncdcphohmiaaGreatDoor
