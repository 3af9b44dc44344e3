/- Layer 9, the reference: Text. -/
import Derived.Test.YtcjlnmfbanknhaaDoorNmRf
set_option linter.unusedSimpArgs false
set_option linter.unusedVariables false
namespace Go.Proofs.YtcjlnmfbanknhaaDoor
open Go.RowKit Go.Shelf
set_option maxRecDepth 100000
set_option maxHeartbeats 2000000
theorem Nm.join_snoc : ∀ (ws : List Nm.T) (w : Nm.T), ws ≠ [] → Nm.join (ws ++ [w]) = Nm.join ws ++ 32 :: w
  | [], _, h => absurd rfl h
  | [v], w, _ => by simp [Nm.join]
  | v :: u :: t, w, _ => by
    have := Nm.join_snoc (u :: t) w (by simp)
    simp only [List.cons_append, Nm.join] at this ⊢
    rw [this]
    simp
theorem Nm.app_list (a b : ByteArray) : (a ++ b).data.toList = a.data.toList ++ b.data.toList := by simp
theorem Nm.title_le (s : Nat) : (Nm.title s).length ≤ 7 := by
  have := Nm.word_le s
  unfold Nm.title
  rw [List.length_append, List.length_singleton]
  omega
theorem Nm.rtext_any (k : Int) (A : Option Addr) (c : Nat) (ss : List ByteArray) (n : Nat) (hn : ss.length = n) (hl : n ≤ 20) (hm : ∀ x ∈ ss, x.size ≤ 100) (w : World) (hs : Strs w w.heap.size A ss) :
    Calls Tryd.prog 12 #[.agg #[.int .i64 k, .slice A n c]] w fun e w' => e = .returned (.tuple #[.string (Nm.tx k ss), .int .i64 (Nm.te k ss)]) ∧ Below w.heap.size w w' := by
  have hB := Nm.al w (.cells #[.int .i64 k, .slice A n c] 24)
  have HS := Lib.hid (Nm.sbt hs hB)
  have HB := Lib.hid hB
  have hz := heap_alloc_new w (.cells #[.int .i64 k, .slice A n c] 24)
  have z0 : (w.alloc (.cells #[.int .i64 k, .slice A n c] 24)).cell? ⟨w.heap.size, 0, none⟩ = some (.int .i64 k) := Nm.cell_h hz 0
  have z1 : (w.alloc (.cells #[.int .i64 k, .slice A n c] 24)).cell? ⟨w.heap.size, 1, none⟩ = some (.slice A n c) := Nm.cell_h hz 1
  have hlt0 : w.heap.size < (w.alloc (.cells #[.int .i64 k, .slice A n c] 24)).heap.size := by simp
  have HZ := Lib.hid (And.intro z0 (And.intro z1 hlt0))
  have V1 := Lib.hid (Nm.rvalid_any k A c ss n hn hl hm _ (HS.out))
  cases hok : Nm.okT k ss with
  | false =>
    have HX : Hid (Nm.tx k ss = ⟨#[]⟩ ∧ Nm.te k ss = 1) := Lib.hid (by unfold Nm.tx Nm.te; rw [hok]; exact ⟨rfl, rfl⟩)
    rw [hok] at V1
    clear hs hn hB hz hm z0 z1 hlt0 hok
    go_enter Tryd.func12, Tryd.ntmps12
    go_wp2_with fail
    refine V1.out.mono ?_
    rintro e w1 ⟨rfl, g1⟩
    have G := Nm.Nb HB.out g1
    go_wp2
    go_ret2
    exact ⟨by rw [HX.out.1, HX.out.2]; rfl, G⟩
  | true =>
    obtain ⟨hs1, hs4, hks⟩ := Nm.okT_sc hok
    have hlt := Nm.tx_list hok
    have HX : Hid (Nm.te k ss = 0) := Lib.hid (by unfold Nm.te; rw [hok]; rfl)
    have HT : Hid ((Nm.tx k ss).data.toList = Nm.title (Nm.sc k) ++ Nm.join (Nm.wl ss)) := Lib.hid hlt
    have hokN := Nm.okN_iff hok
    have hn6 : n ≤ 6 := by
      have := hokN.2.2
      unfold Nm.wl at this
      rw [List.length_map, hn] at this
      exact this
    have hw24 : ∀ x ∈ ss, x.size ≤ 24 := fun x hx => by
      rw [Lib.size_eq]
      exact Nm.isW_len (hokN.1 _ (List.mem_map.2 ⟨x, hx, rfl⟩))
    rw [hok] at V1
    have T1 := Lib.hid (fun v => Nm.title_any (Nm.sc k) hs1 hs4 v)
    rw [← hks] at T1
    have htl := Nm.title_le (Nm.sc k)
    have HTL : Hid ((Nm.bt (Nm.title (Nm.sc k))).data.toList = Nm.title (Nm.sc k)) := Lib.hid (Nm.bt_list _)
    obtain ⟨tb, htb⟩ : ∃ tb, Nm.bt (Nm.title (Nm.sc k)) = tb := ⟨_, rfl⟩
    rw [htb] at T1 HTL
    have htbs : tb.size ≤ 7 := by rw [Lib.size_eq, HTL.out]; exact htl
    obtain ⟨r, hr⟩ : ∃ r, Nm.tx k ss = r := ⟨_, rfl⟩
    rw [hr] at HT ⊢
    rw [HX.out]
    have HN := Lib.hid hn
    have HW := Lib.hid hw24
    clear hs hn hB hz hm z0 z1 hlt0 hok hlt hokN hks hs1 hs4 hw24 htl htb hr HX
    go_enter Tryd.func12, Tryd.ntmps12
    go_wp2_with fail
    refine V1.out.mono ?_
    rintro e w1 ⟨rfl, g1⟩
    have HB1 := Lib.hid g1
    have x0 := (g1.cell (p := ⟨w.heap.size, 0, none⟩) HZ.out.2.2).trans HZ.out.1
    clear g1
    go_wp2_with fail
    refine (T1.out w1).mono ?_
    rintro e w2 ⟨rfl, g2⟩
    have HB2 := Lib.hid (Nm.Nb HB1.out g2)
    clear g2 x0
    go_wp2_with fail
    generalize hVV : w.alloc (.cells #[.int .i64 k, .slice A n c] 24) = V at *
    go_loopw [4, 5] (fun s4 s5 wr => ∃ (i : Nat) (o : ByteArray), i ≤ n ∧ s4 = .string o ∧ s5 = .int .i64 (i : Int) ∧ o.size ≤ 7 + 25 * i ∧ Hid (o.data.toList = tb.data.toList ++ Nm.join (Nm.wl (ss.take i))) ∧ Hid (Below V.heap.size V wr)) (fun _ s5 _ => n - (intOf s5).toNat)
    case atStart => exact ⟨0, tb, by omega, rfl, rfl, by omega, Lib.hid (by simp [Nm.wl, Nm.join]), HB2⟩
    case round =>
      obtain ⟨i, o, hi, rfl, rfl, ho, HE, HW2⟩ := hrel
      have x1 := (HW2.out.cell (p := ⟨w.heap.size, 1, none⟩) HZ.out.2.2).trans HZ.out.2.1
      by_cases hlt : i < n
      · have hlt' : (i : Int) < (n : Int) := by omega
        have hi0 : (0 : Int) ≤ (i : Int) := by omega
        obtain ⟨ad, rfl, had, hx⟩ := HS.out i (by rw [HN.out]; exact hlt)
        have htk := Nm.getD_take (ss := ss) (i := i) (by rw [HN.out]; exact hlt)
        have hsz := HW.out _ (Nm.getD_memF' (l := ss) (i := i) (by rw [HN.out]; exact hlt))
        have hwl : Nm.wl (ss.take (i + 1)) = Nm.wl (ss.take i) ++ [(ss.getD i ByteArray.empty).data.toList] := by
          rw [htk]
          simp [Nm.wl]
        obtain ⟨x, hxx⟩ : ∃ x, ss.getD i ByteArray.empty = x := ⟨_, rfl⟩
        rw [hxx] at hx hsz hwl
        have hx1 := (HW2.out.cell (p := ad.add i) (by rw [add_block]; exact had)).trans hx
        have HWL := Lib.hid hwl
        clear htk hxx hx hwl
        by_cases h0 : i = 0
        · have h0' : ¬ (0 : Int) < (i : Int) := by omega
          have HF : Hid ((o ++ x).data.toList = tb.data.toList ++ Nm.join (Nm.wl (ss.take (i + 1)))) := Lib.hid (by
            rw [HWL.out, Nm.app_list, HE.out, h0]
            simp [Nm.wl, Nm.join])
          have hsz2 : (o ++ x).size ≤ 7 + 25 * (i + 1) := by simp; omega
          clear h0
          go_wp2
          exact ⟨⟨i + 1, _, by omega, rfl, by go_num, hsz2, HF, HW2⟩, by simp [intOf]; omega⟩
        · have h0' : (0 : Int) < (i : Int) := by omega
          have HF : Hid ((o ++ ⟨#[32]⟩ ++ x).data.toList = tb.data.toList ++ Nm.join (Nm.wl (ss.take (i + 1)))) := Lib.hid (by
            rw [HWL.out, Nm.join_snoc _ _ (by
              intro hc
              have := congrArg List.length hc
              simp only [Nm.wl, List.length_map, List.length_take, HN.out, List.length_nil] at this
              omega), Nm.app_list, Nm.app_list, HE.out]
            simp)
          have hsz2 : (o ++ ⟨#[32]⟩ ++ x).size ≤ 7 + 25 * (i + 1) := by
            have e1 : (⟨#[32]⟩ : ByteArray).size = 1 := rfl
            simp only [ByteArray.size_append, e1]
            omega
          clear h0
          go_wp2
          exact ⟨⟨i + 1, _, by omega, rfl, by go_num, hsz2, HF, HW2⟩, by simp [intOf]; omega⟩
      · obtain rfl : i = n := by omega
        have hE := HE.out
        rw [List.take_of_length_le (by rw [HN.out]; exact Nat.le_refl _), HTL.out, ← HT.out] at hE
        have HF : Hid (o = r) := Lib.hid (ByteArray.ext (Array.toList_inj.1 hE))
        have G := Nm.Nb HB.out HW2.out
        clear hE
        go_wp2
        go_ret2
        exact ⟨by rw [HF.out]; rfl, G⟩
end Go.Proofs.YtcjlnmfbanknhaaDoor
