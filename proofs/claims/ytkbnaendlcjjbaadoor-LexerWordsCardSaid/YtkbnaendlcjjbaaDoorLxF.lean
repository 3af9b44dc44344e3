/- Layer 7: the program's Lex at every text. -/
import Derived.Test.YtkbnaendlcjjbaaDoorLxE
set_option linter.unusedSimpArgs false
set_option linter.unusedVariables false
namespace Go.Proofs.YtkbnaendlcjjbaaDoor
open Go.RowKit
set_option maxRecDepth 100000

theorem Lx.Lexes.gap {l : List UInt8} {off : Nat} {ts e} (h : Lx.Lexes l off ts e) : Lx.Lexes (l.drop (Lx.gapN false l)) (off + Lx.gapN false l) ts e := by
  have h0 : l.drop (Lx.gapN false l) ≠ [] → Lx.gapN false (l.drop (Lx.gapN false l)) = 0 := fun hne => by
    cases hd : l.drop (Lx.gapN false l) with
    | nil => exact absurd hd hne
    | cons c r => exact Lx.gap_solid (Lx.gap_stop false l c r hd)
  cases h with
  | done _ _ h => exact .done _ _ (by rw [h]; rfl)
  | bad _ _ e h he =>
    have := Lx.Lexes.bad (l.drop (Lx.gapN false l)) (off + Lx.gapN false l) e (by rw [h0 h]; exact h) (by rw [h0 h]; exact he)
    rw [h0 h] at this
    exact this
  | tok _ _ k n t w ts e h hk hr =>
    have := Lx.Lexes.tok (l.drop (Lx.gapN false l)) (off + Lx.gapN false l) k n t w ts e (by rw [h0 h]; exact h) (by rw [h0 h]; exact hk) (by rw [h0 h]; exact hr)
    rw [h0 h] at this
    exact this
/-- A place behind a gap. -/
def Lx.Flush (l : List UInt8) : Prop := l = [] ∨ Lx.gapN false l = 0
theorem Lx.flush_gap (l : List UInt8) : Lx.Flush (l.drop (Lx.gapN false l)) := by
  cases hd : l.drop (Lx.gapN false l) with
  | nil => exact .inl rfl
  | cons c r => exact .inr (Lx.gap_solid (Lx.gap_stop false l c r hd))
theorem Lx.Lexes.at_nil {l : List UInt8} {off : Nat} {ts e} (h : Lx.Lexes l off ts e) (hl : l = []) : ts = [] ∧ e = none := by
  subst hl
  cases h with
  | done => exact ⟨rfl, rfl⟩
  | bad _ _ e h => simp at h
  | tok _ _ k n t w ts e h => simp at h
theorem Lx.Lexes.at_err {l : List UInt8} {off : Nat} {ts e x} (h : Lx.Lexes l off ts e) (hf : Lx.Flush l) (hl : l ≠ []) (hx : Lx.tokF l = .err x) : ts = [] ∧ e = some (x, off) := by
  have hg : Lx.gapN false l = 0 := hf.resolve_left hl
  cases h with
  | done _ _ h => rw [hg, List.drop_zero] at h; exact absurd h hl
  | bad _ _ e h he =>
    rw [hg, List.drop_zero, hx] at he
    cases he
    rw [hg]
    exact ⟨rfl, rfl⟩
  | tok _ _ k n t w ts e h hk => rw [hg, List.drop_zero, hx] at hk; cases hk
theorem Lx.Lexes.at_ok {l : List UInt8} {off : Nat} {ts e k n t w} (h : Lx.Lexes l off ts e) (hf : Lx.Flush l) (hl : l ≠ []) (hx : Lx.tokF l = .ok k n t w) : ∃ r, ts = ⟨k, off, n, t⟩ :: r ∧ Lx.Lexes (l.drop w) (off + w) r e := by
  have hg : Lx.gapN false l = 0 := hf.resolve_left hl
  cases h with
  | done _ _ h => rw [hg, List.drop_zero] at h; exact absurd h hl
  | bad _ _ e h he => rw [hg, List.drop_zero, hx] at he; cases he
  | tok _ _ k n t w ts e h hk hr =>
    rw [hg, List.drop_zero, hx] at hk
    cases hk
    rw [hg, List.drop_zero] at hr
    rw [hg]
    exact ⟨_, rfl, hr⟩
theorem Lx.tok_err {l : List UInt8} {x : Int} (hl : l ≠ []) (h : Lx.tokF l = .err x) : x = 2 ∨ x = 3 ∨ x = 4 ∨ x = 6 := by
  cases l with
  | nil => exact absurd rfl hl
  | cons c r =>
    rw [Lx.tokF_cls] at h
    unfold Lx.nameF Lx.numF Lx.quoF Lx.symF at h
    repeat' split at h
    all_goals first
      | (cases h; simp; done)
      | cases h
/-- What Lex returns, of a text within its limit. -/
def Lx.Out (T : List Lx.Tk) (E : Option (Int × Nat)) (w : World) (B : Nat) (V : Value) (en off : Int) : Prop :=
  (∃ h : 5000 < T.length, V = .slice none 0 0 ∧ en = 2 ∧ off = ((T[5000]).at' : Int)) ∨ (T.length ≤ 5000 ∧ ((∃ x o, E = some (x, o) ∧ V = .slice none 0 0 ∧ en = x ∧ off = (o : Int)) ∨ (E = none ∧ CoT w B V T ∧ en = 0 ∧ off = 0)))

theorem Lx.lex_long (t : ByteArray) (w : World) (h : 20000 < t.size) : Calls Tryd.prog 12 #[.string t] w fun e w' => e = .returned (.tuple #[.slice none 0 0, .int .i64 2, .int .i64 (-1)]) ∧ w = w' := by
  have h1 : decide ((20000 : Int) < (t.size : Int)) = true := decide_eq_true (by omega)
  have h2 : decide (20000 < t.size) = true := decide_eq_true (by omega)
  go_enter Tryd.func12, Tryd.ntmps12
  go_wp2
  go_ret3
  exact ⟨rfl, rfl⟩

set_option maxHeartbeats 4000000 in
theorem Lx.lex_run (t : ByteArray) (w : World) (hm : t.size ≤ 20000) (T : List Lx.Tk) (E : Option (Int × Nat)) (hL : Lx.Lexes t.data.toList 0 T E) :
    Calls Tryd.prog 12 #[.string t] w fun e w' => ∃ V en off, e = .returned (.tuple #[V, .int .i64 en, .int .i64 off]) ∧ Below w.heap.size w w' ∧ Lx.Out T E w' w.heap.size V en off := by
  have hd0 : decide ((20000 : Int) < (t.size : Int)) = false := decide_eq_false (by omega)
  have hd1 : decide (20000 < t.size) = false := decide_eq_false (by omega)
  obtain ⟨hv45, hi45⟩ := zero_of_info Lx.info45
  have HI45 := Lib.hid hi45
  have HB := Lib.hid (Lx.built t)
  have HTAB := Lib.hid (fun v => Lx.table_any v)
  have hz45 : (#[Value.string ⟨#[]⟩] ++ Lx.cv (Lx.tabN 0)).size = 257 := by
    rw [Array.size_append, Lx.cv_size, Lx.tabN_length]
    rfl
  generalize #[Value.string ⟨#[]⟩] ++ Lx.cv (Lx.tabN 0) = Z45 at hv45 hz45
  have HZ45 := Lib.hid hz45
  have HS1 := Lib.hid (Lx.scC_size t)
  have HS2 := Lib.hid (Lx.scC_one t)
  have HSC : Hid (Lx.scC t = #[Value.string t] ++ Lx.cv Lx.tabC) := Lib.hid rfl
  generalize Lx.scC t = SC at *
  generalize Lx.cv Lx.tabC = TC at HTAB HB
  clear hi45 hz45
  go_enter Tryd.func12, Tryd.ntmps12
  go_wp2_with fail
  refine (HTAB.out _).mono ?_
  rintro e w1 ⟨rfl, hb1⟩
  go_wp2_with (first | (refine Lx.list_build rfl 45 (.tmp 14) (.tmp 15) rfl (.string t) (.agg TC) rfl rfl SC HB.out ?_) | refine wpList_store_row rfl _ _ _ rfl w1.heap.size _ rfl rfl 45 _ (heap_alloc_new w1 _) (HI45.out.trans (by rw [HS1.out])) (HZ45.out.trans HS1.out.symm) HS2.out ?_)
  have hbE := Lx.al w1 (.cells Z45 45)
  have hb2 : Below w.heap.size w ((w1.alloc (.cells Z45 45)).setRow w1.heap.size SC) := below_setRow (Lx.Nb hb1 hbE) hb1.size _
  have hs2 : Sc ((w1.alloc (.cells Z45 45)).setRow w1.heap.size SC) ((w1.alloc (.cells Z45 45)).setRow w1.heap.size SC).heap.size w1.heap.size t := by
    have hh := setRow_heap _ _ _ SC _ _ (heap_alloc_new w1 (.cells Z45 45))
    exact ⟨(Array.getElem?_eq_some_iff.1 hh).1, by rw [← HSC.out]; exact hh⟩
  generalize (w1.alloc (.cells Z45 45)).setRow w1.heap.size SC = w2 at *
  have hwE := hs2.1
  generalize w1.heap.size = b at *
  have hle : t.data.toList.length = t.size := by simp
  have HLE := Lib.hid hle
  have G := Lib.hid (fun (v : World) (hb : Below w2.heap.size w2 v) (k : Nat) (hk : k ≤ t.size) (r : Nat) (hr : r = k + Lx.gapN false (t.data.toList.drop k)) => Lx.gaps_any b t k v (hs2.bt hb) hk (by omega) r hr)
  have K := Lib.hid (fun (v : World) (hb : Below w2.heap.size w2 v) (k : Nat) (hk : k < t.size) => Lx.token_any b t k v (hs2.bt hb) hk (by omega))
  have HB2 := Lib.hid hb2
  have hg0 := Lx.gap_le false t.data.toList
  rw [hle] at hg0
  have HL0 := Lib.hid (And.intro hL.gap (Lx.flush_gap t.data.toList))
  have G0 := Lib.hid (G.out w2 (Below.refl _ _) 0 (by omega) _ (by rw [List.drop_zero, Nat.zero_add]))
  rw [Nat.zero_add] at HL0
  generalize Lx.gapN false t.data.toList = j0 at *
  clear hs2 hb2 hbE hle hL HI45 hv45 HZ45 HS1 HS2 HTAB HB HSC hb1
  refine G0.out.mono ?_
  rintro e w3 ⟨rfl, hb3⟩
  clear G0
  go_wp2_with fail
  go_loopw [6, 7] (fun v i wr => ∃ (j : Nat) (us rest : List Lx.Tk), j ≤ t.size ∧ i = .int .i64 (j : Int) ∧ Hid (CoT wr w2.heap.size v us) ∧ us.length ≤ 5000 ∧ Hid (T = us ++ rest ∧ Lx.Lexes (t.data.toList.drop j) j rest E ∧ Lx.Flush (t.data.toList.drop j)) ∧ Below w2.heap.size w2 wr) (fun _ i _ => t.size - (intOf i).toNat)
  case atStart => exact ⟨j0, [], T, hg0, rfl, Lib.hid (CoT.nil _ _), by simp, Lib.hid ⟨rfl, HL0.out⟩, hb3⟩
  case round =>
    obtain ⟨j, us, rest, hj, rfl, HC, hu, HL, hb⟩ := hrel
    clear HL0 hb3 hg0
    by_cases hlt : j < t.size
    · have hlt' : (j : Int) < (t.size : Int) := by omega
      have hne : t.data.toList.drop j ≠ [] := fun e => by
        have := List.drop_eq_nil_iff.1 e
        have := HLE.out
        omega
      have C := Lib.hid (K.out wr hb j hlt)
      cases hR : Lx.tokF (t.data.toList.drop j) with
      | err x =>
        obtain ⟨hrn, hE⟩ := HL.out.2.1.at_err HL.out.2.2 hne hR
        have hx := Lx.tok_err hne hR
        have hx0 : (x == 0) = false := by simp; omega
        have hx1 : (x != 0) = true := by simp; omega
        have HO : Hid (∀ w', Lx.Out T E w' w.heap.size (.slice none 0 0) x (j : Int)) := Lib.hid (fun w' => .inr ⟨by rw [HL.out.1, hrn, List.append_nil]; exact hu, .inl ⟨x, j, hE, rfl, rfl, rfl⟩⟩)
        rw [hR] at C
        simp only [Lx.resV] at C
        clear hR hrn hE hx hne HL HC K G HLE
        go_wp2_with fail
        refine C.out.mono ?_
        rintro e w4 ⟨rfl, hb4⟩
        clear C
        have TN := Lib.hid (Tb.new w4 #[.int .i64 0, .int .i64 0, .int .i64 0, .string ⟨#[]⟩])
        go_wp2_with (refine wpList_store_row rfl _ _ _ rfl w4.heap.size _ rfl rfl 30 _ TN.out (Lx.info30.trans rfl) rfl (by simp [Value.oneCell']) ?_)
        go_ret3
        refine ⟨_, _, _, rfl, ?_, HO.out _⟩
        exact below_setRow ((Lx.Nb HB2.out (Lx.Nb hb hb4)).alloc (by have := HB2.out.size; have := hb.size; have := hb4.size; omega) _) (by have := HB2.out.size; have := hb.size; have := hb4.size; omega) _
      | ok kd n tx wd =>
        obtain ⟨rest', hre, hL'⟩ := HL.out.2.1.at_ok HL.out.2.2 hne hR
        have hwd := Lx.tok_lt hR
        rw [List.length_drop, HLE.out] at hwd
        rw [hR] at C
        simp only [Lx.resV] at C
        have hcell : (#[Value.int .i64 kd, .int .i64 (j : Int), .int .i64 (n : Int), .string ⟨tx.toArray⟩] : Array Value).all (·.oneCell') = true := by simp [Value.oneCell']
        by_cases hfull : us.length = 5000
        · have HO : Hid (∀ w', Lx.Out T E w' w.heap.size (.slice none 0 0) 2 (j : Int)) := Lib.hid (fun w' => by
            have hT := HL.out.1
            rw [hre] at hT
            subst hT
            refine .inl ⟨by simp; omega, rfl, rfl, ?_⟩
            rw [List.getElem_append_right (by omega)]
            simp [hfull])
          clear hR hre hL' hwd hne HL K G HLE
          obtain ⟨A, c, rfl, _, _, _⟩ := HC.out.form
          have hf1 : ((us.length : Int) == 5000) = true := by simp; omega
          have hf2 : (us.length == 5000) = true := by simp; omega
          clear HC hfull
          go_wp2_with fail
          refine C.out.mono ?_
          rintro e w4 ⟨rfl, hb4⟩
          clear C
          have TN := Lib.hid (Tb.new w4 #[.int .i64 0, .int .i64 0, .int .i64 0, .string ⟨#[]⟩])
          go_wp2_with (refine wpList_store_row rfl _ _ _ rfl w4.heap.size _ rfl rfl 30 _ TN.out (Lx.info30.trans rfl) rfl hcell ?_)
          go_ret3
          refine ⟨_, _, _, rfl, ?_, HO.out _⟩
          exact below_setRow ((Lx.Nb HB2.out (Lx.Nb hb hb4)).alloc (by have := HB2.out.size; have := hb.size; have := hb4.size; omega) _) (by have := HB2.out.size; have := hb.size; have := hb4.size; omega) _
        · have hHC := HC.out
          obtain ⟨A, c, rfl, _, _, _⟩ := HC.out.form
          have hf1 : ((us.length : Int) == 5000) = false := by simp; omega
          have hf2 : (us.length == 5000) = false := by simp; omega
          have hf3 : ¬ us.length = 5000 := hfull
          have hjw : j + wd ≤ t.size := by omega
          have hgl := Lx.gap_le false (t.data.toList.drop (j + wd))
          rw [List.length_drop, HLE.out] at hgl
          have G1 := Lib.hid (fun v hv => G.out v hv (j + wd) hjw _ rfl)
          have HL' : Hid (T = (us ++ [⟨kd, j, n, tx⟩]) ++ rest' ∧ Lx.Lexes (t.data.toList.drop (j + wd + Lx.gapN false (t.data.toList.drop (j + wd)))) (j + wd + Lx.gapN false (t.data.toList.drop (j + wd))) rest' E ∧ Lx.Flush (t.data.toList.drop (j + wd + Lx.gapN false (t.data.toList.drop (j + wd))))) := Lib.hid (by
            rw [List.drop_drop] at hL'
            have h1 := hL'.gap
            have h2 := Lx.flush_gap (t.data.toList.drop (j + wd))
            rw [List.drop_drop] at h1 h2
            refine ⟨?_, h1, h2⟩
            rw [HL.out.1, hre, List.append_assoc]
            rfl)
          have hj2 : j + wd + Lx.gapN false (t.data.toList.drop (j + wd)) ≤ t.size := by omega
          have hj3 : j < j + wd + Lx.gapN false (t.data.toList.drop (j + wd)) := by omega
          generalize j + wd + Lx.gapN false (t.data.toList.drop (j + wd)) = j2 at *
          generalize j + wd = jw at *
          have HOWN := Lib.hid hHC
          clear HC hfull hHC hR hre hL' hwd hne HL K G HLE hgl
          go_wp2_with fail
          refine C.out.mono ?_
          rintro e w4 ⟨rfl, hb4⟩
          clear C
          have TN := Lib.hid (Tb.new w4 #[.int .i64 0, .int .i64 0, .int .i64 0, .string ⟨#[]⟩])
          have HO4 := Lib.hid (HOWN.out.bt hb4)
          have hb5 := Lx.Nb hb hb4
          clear HOWN hb hb4
          go_wp2_with (first
            | (refine wpList_store_row rfl _ _ _ rfl w4.heap.size _ rfl rfl 30 _ TN.out (Lx.info30.trans rfl) rfl hcell ?_)
            | (refine wpList_load_row rfl _ _ rfl w4.heap.size rfl 30 _ (0, 0) _ (TN.out.set _) Tryd.underlying30 rfl (Lx.info30.trans rfl) ?_)
            | (refine Lx.list_append rfl _ _ rfl w2.heap.size _ us rfl (HO4.out.bt (Lx.st3 w4 _ _ _)) _ rfl ⟨kd, j, n, tx⟩ 30 (Lx.st3n w4 _ _ _) (by omega) (Nat.le_trans hb5.size (Lx.st3 w4 _ _ _).size) ?_))
          intro v' w5 hown' hb6
          have hb7 : Below w2.heap.size w2 w5 := (Lx.Nb hb5 (Lx.st3 w4 _ _ _)).trans hb6
          have G2 := Lib.hid (G1.out w5 hb7)
          have HO5 := Lib.hid hown'
          have hlen : (us ++ [(⟨kd, j, n, tx⟩ : Lx.Tk)]).length ≤ 5000 := by simp; omega
          clear G1 hown' HO4 hb5 hb6 TN
          generalize us ++ [(⟨kd, j, n, tx⟩ : Lx.Tk)] = us2 at *
          go_wp2_with fail
          refine G2.out.mono ?_
          rintro e w6 ⟨rfl, hb8⟩
          have HO6 := Lib.hid (HO5.out.bt hb8)
          have hb9 := Lx.Nb hb7 hb8
          clear G2 HO5 hb7 hb8
          go_wp2_with fail
          exact ⟨⟨j2, us2, rest', hj2, rfl, HO6, hlen, HL', hb9⟩, by simp [intOf]; omega⟩
    · obtain rfl : j = t.size := by omega
      obtain ⟨hrn, hE⟩ := HL.out.2.1.at_nil (List.drop_eq_nil_of_le (by rw [HLE.out]; exact Nat.le_refl _))
      have HT : Hid (T = us) := Lib.hid (by rw [HL.out.1, hrn, List.append_nil])
      have HE := Lib.hid hE
      clear K G HL HLE hrn hE
      go_wp2_with fail
      go_ret3
      refine ⟨_, _, _, rfl, Lx.Nb HB2.out hb, .inr ⟨by rw [HT.out]; exact hu, .inr ⟨HE.out, ?_, rfl, rfl⟩⟩⟩
      rw [HT.out]
      exact HC.out.mono HB2.out.size
end Go.Proofs.YtkbnaendlcjjbaaDoor
