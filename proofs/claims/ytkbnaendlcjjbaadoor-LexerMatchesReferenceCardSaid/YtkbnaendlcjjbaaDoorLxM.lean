/- Layer 7: the reference's Lex at every text. -/
import Derived.Test.YtkbnaendlcjjbaaDoorLxK
import Derived.Test.YtkbnaendlcjjbaaDoorLxI
set_option linter.unusedSimpArgs false
set_option linter.unusedVariables false
namespace Go.Proofs.YtkbnaendlcjjbaaDoor
open Go.RowKit
set_option maxRecDepth 100000

theorem Lx.lexR_long (t : ByteArray) (w : World) (h : 20000 < t.size) : Calls Tryd.prog 13 #[.string t] w fun e w' => e = .returned (.tuple #[.slice none 0 0, .int .i64 2, .int .i64 (-1)]) ∧ w = w' := by
  have h1 : decide ((20000 : Int) < (t.size : Int)) = true := decide_eq_true (by omega)
  have h2 : decide (20000 < t.size) = true := decide_eq_true (by omega)
  go_enter Tryd.func13, Tryd.ntmps13
  go_wp2
  go_ret3
  exact ⟨rfl, rfl⟩

theorem Lx.list_appendG {ops : Array Oper} {rest : List Oper} {o : Oper} {a : Act} {w : World} {Q : Exit → Act → World → Prop} (hgd : o.guard = none) (s x : Operand)
    (ho : o.op = .call { callee := .builtin .append, args := #[s, x], argTypes := #[23, 23] }) (B : Nat) (v : Value) (l : List Lx.Tk) (hs : a.eval s = v) (hown : CoT w B v l) (b : Nat) (hx : a.eval x = .slice (some ⟨b, 0, none⟩) 1 1)
    (r : Lx.Tk) (T : TypeId) (hb : w.heap[b]? = some (.cells (Lx.tkV r).toArray T (0, 0))) (hl : l.length ≤ 1000000) (hB : B ≤ w.heap.size)
    (h : ∀ v' w', CoT w' B v' (l ++ [r]) → Below B w w' → (∀ k, k < w.heap.size → some k ≠ v.ownBlock → w'.heap[k]? = w.heap[k]?) → wpList Tryd.prog ops Q rest (a.put o.dst v') w') : wpList Tryd.prog ops Q (o :: rest) a w := by
  obtain ⟨i0, hi, hz0, hz1, hz2⟩ := info_parts Lx.infoTk
  refine wpList_append_own_at w hgd s x 23 ho B 30 i0 _ 4 40 Tryd.underlying23 hi hz0 hz1 hz2 rfl (by decide) v l.length (Lx.tkC l) hs hown ⟨b, 0, none⟩ 1 1 (Lx.tkV r) hx rfl (World.news_of_block hb) ?_ (by unfold maxLen; omega) (by omega) hB ?_
  · intro u hu
    simp [Lx.tkV] at hu
    rcases hu with rfl | rfl | rfl | rfl <;> rfl
  · intro v' w' hown' hg _ _
    refine h _ w' ?_ ?_ (fun k hk hne => hg.block k hk hne)
    · unfold CoT
      rw [List.length_append, Lx.tkC_append]
      exact hown'
    · exact (Below.refl _ _).grown hg hB (fun k hk => (CoT.lt hown k hk).1)

set_option maxHeartbeats 4000000 in
theorem Lx.lexR_run (t : ByteArray) (w : World) (hm : t.size ≤ 20000) (T : List Lx.Tk) (E : Option (Int × Nat)) (hL : Lx.Lexes t.data.toList 0 T E) :
    Calls Tryd.prog 13 #[.string t] w fun e w' => ∃ V en off, e = .returned (.tuple #[V, .int .i64 en, .int .i64 off]) ∧ Below w.heap.size w w' ∧ Lx.Out T E w' w.heap.size V en off := by
  have hd0 : decide ((20000 : Int) < (t.size : Int)) = false := decide_eq_false (by omega)
  have hd1 : decide (20000 < t.size) = false := decide_eq_false (by omega)
  have hle := Lx.len t
  have HLE := Lib.hid hle
  have G := Lib.hid (fun (v : World) (k : Nat) (hk : k ≤ t.size) (r : Nat) (hr : r = k + Lx.gapN false (t.data.toList.drop k)) => Lx.gapR_any t k v hk (by omega) r hr)
  have K := Lib.hid (fun (v : World) (k : Nat) (hk : k < t.size) => Lx.next_any t k v hk (by omega))
  have hg0 := Lx.gap_le false t.data.toList
  rw [hle] at hg0
  have HL0 := Lib.hid (And.intro hL.gap (Lx.flush_gap t.data.toList))
  have G0 := Lib.hid (fun v => G.out v 0 (by omega) _ (by rw [List.drop_zero, Nat.zero_add]))
  rw [Nat.zero_add] at HL0
  generalize Lx.gapN false t.data.toList = j0 at *
  clear hle hL
  go_enter Tryd.func13, Tryd.ntmps13
  go_wp2_with fail
  refine (G0.out _).mono ?_
  rintro e w3 ⟨rfl, rfl⟩
  clear G0
  go_wp2_with fail
  go_loopw [5, 6] (fun v i wr => ∃ (j : Nat) (us rest : List Lx.Tk), j ≤ t.size ∧ i = .int .i64 (j : Int) ∧ Hid (CoT wr w.heap.size v us) ∧ us.length ≤ 5000 ∧ Hid (T = us ++ rest ∧ Lx.Lexes (t.data.toList.drop j) j rest E ∧ Lx.Flush (t.data.toList.drop j)) ∧ Below w.heap.size w wr) (fun _ i _ => t.size - (intOf i).toNat)
  case atStart => exact ⟨j0, [], T, hg0, rfl, Lib.hid (CoT.nil _ _), by simp, Lib.hid ⟨rfl, HL0.out⟩, Below.refl _ _⟩
  case round =>
    obtain ⟨j, us, rest, hj, rfl, HC, hu, HL, hb⟩ := hrel
    clear HL0 hg0
    by_cases hlt : j < t.size
    · have hlt' : (j : Int) < (t.size : Int) := by omega
      have hne : t.data.toList.drop j ≠ [] := fun e => by
        have := List.drop_eq_nil_iff.1 e
        have := HLE.out
        omega
      have C := Lib.hid (K.out wr j hlt)
      cases hR : Lx.tokF (t.data.toList.drop j) with
      | err x =>
        obtain ⟨hrn, hE⟩ := HL.out.2.1.at_err HL.out.2.2 hne hR
        have hx := Lx.tok_err hne hR
        have hx1 : (x != 0) = true := by simp; omega
        have HO : Hid (∀ w', Lx.Out T E w' w.heap.size (.slice none 0 0) x (j : Int)) := Lib.hid (fun w' => .inr ⟨by rw [HL.out.1, hrn, List.append_nil]; exact hu, .inl ⟨x, j, hE, rfl, rfl, rfl⟩⟩)
        rw [hR] at C
        simp only [Lx.resN] at C
        clear hR hrn hE hx hne HL HC K G HLE
        go_wp2_with fail
        refine C.out.mono ?_
        rintro e w4 ⟨rfl, hb4⟩
        clear C
        have TN := Lib.hid (Tb.new w4 #[.int .i64 0, .int .i64 0, .int .i64 0, .string ⟨#[]⟩])
        go_wp2_with (refine wpList_store_row rfl _ _ _ rfl w4.heap.size _ rfl rfl 30 _ TN.out (Lx.info30.trans rfl) rfl (by simp [Value.oneCell']) ?_)
        go_ret3
        refine ⟨_, _, _, rfl, ?_, HO.out _⟩
        exact Lx.Nb (Lx.Nb hb hb4) (Lx.st2 w4 _ _)
      | ok kd n tx wd =>
        obtain ⟨rest', hre, hL'⟩ := HL.out.2.1.at_ok HL.out.2.2 hne hR
        have hwd := Lx.tok_lt hR
        rw [List.length_drop, HLE.out] at hwd
        have hsm := (Lx.tok_bytes hR j).2.2.2
        have hww := Lx.tok_wd hR j
        rw [hR] at C
        simp only [Lx.resN] at C
        have hcell : (#[Value.int .i64 kd, .int .i64 (j : Int), .int .i64 (n : Int), .string ⟨tx.toArray⟩] : Array Value).all (·.oneCell') = true := by simp [Value.oneCell']
        by_cases hfull : us.length = 5000
        · have HO : Hid (∀ w', Lx.Out T E w' w.heap.size (.slice none 0 0) 2 (j : Int)) := Lib.hid (fun w' => by
            have hT := HL.out.1
            rw [hre] at hT
            subst hT
            refine .inl ⟨by simp; omega, rfl, rfl, ?_⟩
            rw [List.getElem_append_right (by omega)]
            simp [hfull])
          clear hR hre hL' hwd hne HL K G HLE hsm hww
          obtain ⟨A, c, rfl, _, _, _⟩ := HC.out.form
          have hf1 : ((us.length : Int) == 5000) = true := by simp; omega
          have hf2 : (us.length == 5000) = true := by simp; omega
          clear HC hfull
          go_wp2_with fail
          refine C.out.mono ?_
          rintro e w4 ⟨rfl, hb4⟩
          clear C
          have TN := Lib.hid (Tb.new w4 #[.int .i64 0, .int .i64 0, .int .i64 0, .string ⟨#[]⟩])
          go_wp2_with (refine wpList_store_row rfl _ _ _ rfl w4.heap.size _ rfl rfl 30 _ TN.out (Lx.info30.trans rfl) rfl hcell ?_)
          go_ret3
          refine ⟨_, _, _, rfl, ?_, HO.out _⟩
          exact Lx.Nb (Lx.Nb hb hb4) (Lx.st2 w4 _ _)
        · have hHC := HC.out
          obtain ⟨A, c, rfl, _, _, _⟩ := HC.out.form
          have hf1 : ((us.length : Int) == 5000) = false := by simp; omega
          have hf2 : (us.length == 5000) = false := by simp; omega
          have hf3 : ¬ us.length = 5000 := hfull
          have hjw : j + wd ≤ t.size := by omega
          have hgl := Lx.gap_le false (t.data.toList.drop (j + wd))
          rw [List.length_drop, HLE.out] at hgl
          have G1 := Lib.hid (fun v => G.out v (j + wd) hjw _ rfl)
          have CW := Lib.hid (fun v => Lx.width_any ⟨kd, j, n, tx⟩ v (by dsimp only; omega))
          rw [hww] at CW
          dsimp only at CW
          have hwr : IntKind.i64.wrap ((j : Int) + (wd : Int)) = ((j + wd : Nat) : Int) := by rw [IntKind.wrap_i64]; omega
          have HL' : Hid (T = (us ++ [⟨kd, j, n, tx⟩]) ++ rest' ∧ Lx.Lexes (t.data.toList.drop (j + wd + Lx.gapN false (t.data.toList.drop (j + wd)))) (j + wd + Lx.gapN false (t.data.toList.drop (j + wd))) rest' E ∧ Lx.Flush (t.data.toList.drop (j + wd + Lx.gapN false (t.data.toList.drop (j + wd))))) := Lib.hid (by
            rw [List.drop_drop] at hL'
            have h1 := hL'.gap
            have h2 := Lx.flush_gap (t.data.toList.drop (j + wd))
            rw [List.drop_drop] at h1 h2
            refine ⟨?_, h1, h2⟩
            rw [HL.out.1, hre, List.append_assoc]
            rfl)
          have hj2 : j + wd + Lx.gapN false (t.data.toList.drop (j + wd)) ≤ t.size := by omega
          have hj3 : j < j + wd + Lx.gapN false (t.data.toList.drop (j + wd)) := by omega
          generalize j + wd + Lx.gapN false (t.data.toList.drop (j + wd)) = j2 at *
          generalize j + wd = jw at *
          have HOWN := Lib.hid hHC
          clear HC hfull hHC hR hre hL' hwd hne HL K G HLE hgl hsm hww
          go_wp2_with fail
          refine C.out.mono ?_
          rintro e w4 ⟨rfl, hb4⟩
          clear C
          have TN := Lib.hid (Tb.new w4 #[.int .i64 0, .int .i64 0, .int .i64 0, .string ⟨#[]⟩])
          have HO4 := Lib.hid (HOWN.out.bt hb4)
          have hb5 := Lx.Nb hb hb4
          clear HOWN hb hb4
          have TZ : Hid (∀ o : Obj, Tb (((w4.alloc (.cells #[.int .i64 0, .int .i64 0, .int .i64 0, .string ⟨#[]⟩] 30)).setRow w4.heap.size #[.int .i64 kd, .int .i64 (j : Int), .int .i64 (n : Int), .string ⟨tx.toArray⟩]).alloc o) w4.heap.size #[.int .i64 kd, .int .i64 (j : Int), .int .i64 (n : Int), .string ⟨tx.toArray⟩]) := Lib.hid (fun o => (TN.out.set _).bt (Lx.al _ o))
          go_wp2_with (first
            | (refine wpList_store_row rfl _ _ _ rfl w4.heap.size _ rfl rfl 30 _ TN.out (Lx.info30.trans rfl) rfl hcell ?_)
            | (refine wpList_load_row rfl _ _ rfl w4.heap.size rfl 30 _ (0, 0) _ (TN.out.set _) Tryd.underlying30 rfl (Lx.info30.trans rfl) ?_)
            | (refine Lx.list_appendG rfl _ _ rfl w.heap.size _ us rfl (HO4.out.bt (Lx.st3 w4 _ _ _)) _ rfl ⟨kd, j, n, tx⟩ 30 (Lx.st3n w4 _ _ _) (by omega) (Nat.le_trans hb5.size (Lx.st3 w4 _ _ _).size) ?_))
          intro v' w5 hown' hb6 hkeep
          have hlt4 := (HO4.out.lt)
          have T5 : Tb w5 w4.heap.size #[.int .i64 kd, .int .i64 (j : Int), .int .i64 (n : Int), .string ⟨tx.toArray⟩] := (hkeep w4.heap.size (by omega) (fun e => by have := (hlt4 _ e.symm).2; omega)).trans (TZ.out _)
          have HT5 := Lib.hid T5
          have hb7 : Below w.heap.size w w5 := (Lx.Nb hb5 (Lx.st3 w4 _ _ _)).trans hb6
          have HO5 := Lib.hid hown'
          have hlen : (us ++ [(⟨kd, j, n, tx⟩ : Lx.Tk)]).length ≤ 5000 := by simp; omega
          clear hkeep hlt4 T5 hown' HO4 hb5 hb6 TN TZ
          generalize us ++ [(⟨kd, j, n, tx⟩ : Lx.Tk)] = us2 at *
          go_wp2_with (refine wpList_load_row rfl _ _ rfl w4.heap.size rfl 30 _ (0, 0) _ HT5.out Tryd.underlying30 rfl (Lx.info30.trans rfl) ?_)
          refine (CW.out _).mono ?_
          rintro e w6 ⟨rfl, hb8⟩
          have HO6 := Lib.hid (HO5.out.bt hb8)
          have hb9 := Lx.Nb hb7 hb8
          clear CW HO5 hb7 hb8 HT5
          go_wp2_with fail
          refine (G1.out _).mono ?_
          rintro e w7 ⟨rfl, rfl⟩
          go_wp2_with fail
          exact ⟨⟨j2, us2, rest', hj2, rfl, HO6, hlen, HL', hb9⟩, by simp [intOf]; omega⟩
    · obtain rfl : j = t.size := by omega
      obtain ⟨hrn, hE⟩ := HL.out.2.1.at_nil (List.drop_eq_nil_of_le (by rw [HLE.out]; exact Nat.le_refl _))
      have HT : Hid (T = us) := Lib.hid (by rw [HL.out.1, hrn, List.append_nil])
      have HE := Lib.hid hE
      clear K G HL HLE hrn hE
      go_wp2_with fail
      go_ret3
      refine ⟨_, _, _, rfl, hb, .inr ⟨by rw [HT.out]; exact hu, .inr ⟨HE.out, ?_, rfl, rfl⟩⟩⟩
      rw [HT.out]
      exact HC.out
end Go.Proofs.YtkbnaendlcjjbaaDoor
