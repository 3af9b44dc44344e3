/- The number of a text; the greatest common divisor. -/
import Derived.Test.YtmnnaaifebajnaaGreatDoorNaH
import Derived.Test.YtmnnaaifebajnaaGreatDoorNaI
import Derived.Deep.LoopGhost
set_option linter.unusedSimpArgs false
set_option linter.unusedVariables false
namespace Go.Proofs.YtmnnaaifebajnaaGreatDoor
open Go.RowKit
set_option maxRecDepth 100000

set_option maxHeartbeats 1000000 in
theorem divisor_any (A A' : Option Addr) (m n c c' : Nat) (w : World) (hs : Ints w w.heap.size A (Na.lim m)) (hs' : Ints w w.heap.size A' (Na.lim n)) (hl : (Na.lim m).length ≤ 60) (hl' : (Na.lim n).length ≤ 60) (hc : (Na.lim m).length ≤ c) (hcm : c ≤ maxLen) (hc' : (Na.lim n).length ≤ c') (hcm' : c' ≤ maxLen) :
    Calls Tryz.prog 86 #[.slice A (Na.lim m).length c, .slice A' (Na.lim n).length c'] w (GivesN (Nat.gcd m n) w) := by
  have HS := Lib.hid hs
  have HS' := Lib.hid hs'
  unfold GivesN
  clear hs hs'
  go_enter Tryz.func86, Tryz.ntmps86
  go_wp2
  go_loopg [0, 1] n (fun gf a b wr => ∃ (x y : Nat) (Ax Ay : Option Addr) (cx cy : Nat), y ≤ gf ∧ a = .slice Ax (Na.lim x).length cx ∧ b = .slice Ay (Na.lim y).length cy ∧ Hid (Ints wr wr.heap.size Ax (Na.lim x)) ∧ Hid (Ints wr wr.heap.size Ay (Na.lim y)) ∧ (Na.lim x).length ≤ 60 ∧ (Na.lim y).length ≤ 60 ∧ (Na.lim x).length ≤ cx ∧ cx ≤ maxLen ∧ (Na.lim y).length ≤ cy ∧ cy ≤ maxLen ∧ Hid (Nat.gcd x y = Nat.gcd m n) ∧ Below w.heap.size w wr)
  case atStart => exact ⟨m, n, A, A', c, c', Nat.le_refl _, rfl, rfl, HS, HS', hl, hl', hc, hcm, hc', hcm', Lib.hid rfl, Below.refl _ _⟩
  case round =>
    obtain ⟨x, y, Ax, Ay, cx, cy, hy, rfl, rfl, HX, HY, hlx, hly, hcx, hcxm, hcy, hcym, HG, hb⟩ := hrel
    have HZ := Lib.hid (isZero_any Ay (Na.lim y).length cy wr)
    rw [isZero_lim] at HZ
    by_cases h0 : y = 0
    · rw [decide_eq_true h0] at HZ
      have hg : Nat.gcd m n = x := by rw [← HG.out, h0, Nat.gcd_zero_right]
      have HGG := Lib.hid hg
      clear h0 hg HG
      go_wp2_with fail
      refine HZ.out.mono ?_
      rintro e w1 ⟨rfl, rfl⟩
      go_wp2_with fail
      go_ret
      rw [HGG.out]
      exact ⟨Ax, cx, rfl, HX.out, hcx, hcxm, hb⟩
    · rw [decide_eq_false h0] at HZ
      have DV := Lib.hid (divided_any Ax Ay x y cx cy wr HX.out HY.out hlx hly hcx hcxm hcy hcym (by omega))
      have hmod : x % y < y := Nat.mod_lt _ (by omega)
      have HM := Lib.hid (And.intro hmod (show Nat.gcd y (x % y) = Nat.gcd m n by rw [← HG.out, Nat.gcd_comm x y, Nat.gcd_rec y x, Nat.gcd_comm]))
      have hlm : (Na.lim (x % y)).length ≤ (Na.lim y).length := Na.lim_length.2 (Nat.lt_trans hmod (Na.lim_length.1 (Nat.le_refl _)))
      clear hmod HG
      go_wp2_with fail
      refine HZ.out.mono ?_
      rintro e w1 ⟨rfl, rfl⟩
      go_wp2_with fail
      refine DV.out.mono ?_
      rintro e w2 ⟨Aq, cq, Ar, cr, rfl, hq, _, _, hr, hrc, hrcm, hb2⟩
      have HR := Lib.hid hr
      have HY2 := Lib.hid (HY.out.bt hb2)
      clear hq hr
      obtain ⟨g', rfl⟩ : ∃ g', gk = g' + 1 := ⟨gk - 1, by omega⟩
      have hyg : x % y ≤ g' := by have := HM.out.1; omega
      go_wp2_with fail
      go_roundg g'
      case measure => omega
      case rel => exact ⟨y, x % y, Ay, Ar, cy, cr, hyg, rfl, rfl, HY2, HR, hly, Nat.le_trans hlm hly, hcy, hcym, hrc, hrcm, Lib.hid HM.out.2, Nb hb hb2⟩

def OwnV (w : World) (B : Nat) (v : Value) (l : List Int) : Prop := w.ownsRow B 3 1 v l.length (l.map (Value.int .i64))

theorem OwnV.below {w w' : World} {B : Nat} {v : Value} {l : List Int} (h : OwnV w B v l) (hb : Below w.heap.size w w') : OwnV w' B v l := by
  unfold OwnV at h ⊢
  refine World.ownsRow.kept h (row := none) ⟨hb.os, hb.tape, hb.output, hb.size, fun i hi _ => hb.block i hi⟩ ?_
  cases h : v.ownBlock with
  | none => exact .inl rfl
  | some g => exact .inr (by simp)

theorem OwnV.form {w : World} {B : Nat} {v : Value} {l : List Int} (h : OwnV w B v l) (h0 : l ≠ []) : ∃ g c, v = .slice (some ⟨g, 0, none⟩) l.length c ∧ OwnZ w B g c l := by
  have h' := h
  rcases h.2 with ⟨_, hn⟩ | ⟨g, cap, cur, rfl, _⟩
  · exact absurd (List.eq_nil_of_length_eq_zero hn) h0
  · exact ⟨g, cap, rfl, h'⟩

theorem val_take (l : List UInt8) (st j : Nat) (h : st + j < l.length) : Na.val ((l.drop st).take (j + 1)) = Na.val ((l.drop st).take j) * 10 + Na.dv (l[st + j]) := by
  have e : (l.drop st).take (j + 1) = (l.drop st).take j ++ [l[st + j]] := by
    rw [List.take_add_one, List.getElem?_drop, List.getElem?_eq_getElem h]
    rfl
  rw [e, Na.val_snoc]

theorem val_take_lt (l : List UInt8) (st j : Nat) (hl : l.all Na.isD = true) (hj : j ≤ 6) : Na.val ((l.drop st).take j) < 1000000 := by
  have h1 := Na.val_lt ((l.drop st).take j) (List.all_eq_true.2 fun c hc => List.all_eq_true.1 hl c (List.mem_of_mem_drop (List.mem_of_mem_take hc)))
  have h2 : 10 ^ ((l.drop st).take j).length ≤ 10 ^ 6 := Nat.pow_le_pow_right (by omega) (by rw [List.length_take]; omega)
  omega

theorem val_split (l : List UInt8) (st en : Nat) (h1 : st ≤ en) (h2 : en ≤ l.length) : Na.val (l.drop st) = Na.val ((l.drop st).take (en - st)) * 10 ^ (l.length - en) + Na.val (l.drop en) := by
  have e : l.drop st = (l.drop st).take (en - st) ++ l.drop en := by
    have := List.take_append_drop (en - st) (l.drop st)
    rw [List.drop_drop, show st + (en - st) = en by omega] at this
    exact this.symm
  have := Na.val_append ((l.drop st).take (en - st)) (l.drop en)
  rw [← e, List.length_drop] at this
  exact this

theorem lv_snoc (p : List Nat) (x : Nat) : Na.lv (p ++ [x]) = Na.lv p + 1000000 ^ p.length * x := by
  rw [Na.lv_append, Na.lv_cons, Na.lv_nil, Nat.mul_zero, Nat.add_zero]

set_option maxHeartbeats 1000000 in
theorem numberOf_any (s : ByteArray) (w : World) (hN : Na.isN s.data.toList = true) (hz : s.size ≤ 300) :
    Calls Tryz.prog 101 #[.string s] w (GivesN (Na.val s.data.toList) w) := by
  have hall := Na.isN_all hN
  have hpos : 0 < s.size := by simpa using Na.isN_pos hN
  have hlen : s.data.toList.length = s.size := by simp
  have hvt : ∀ st j a (ha : a = st + j) (h : a < s.size), ∃ d : Nat, d < 10 ∧ s[a].toNat = 48 + d ∧ Na.val ((s.data.toList.drop st).take (j + 1)) = Na.val ((s.data.toList.drop st).take j) * 10 + d := by
    intro st j a ha h
    subst ha
    have h1 : Na.isD (s.data.toList[st + j]'(by rw [hlen]; exact h)) = true := List.all_eq_true.1 hall _ (List.getElem_mem _)
    have e : s[st + j] = s.data.toList[st + j]'(by rw [hlen]; exact h) := rfl
    have h2 := (Na.isD_iff _).1 h1
    refine ⟨Na.dv (s.data.toList[st + j]'(by rw [hlen]; exact h)), Na.dv_lt h1, ?_, val_take _ st j (by rw [hlen]; exact h)⟩
    rw [e]
    unfold Na.dv
    omega
  have HALL := Lib.hid hall
  have HVT := Lib.hid hvt
  have HVL := Lib.hid (fun st j hj => val_take_lt s.data.toList st j hall hj)
  have HVS := Lib.hid (fun st en h1 h2 => val_split s.data.toList st en h1 (by rw [hlen]; exact h2))
  rw [hlen] at HVS
  have HDA := Lib.hid (show s.data.toList.drop s.size = [] by rw [← hlen]; simp)
  unfold GivesN
  generalize s.data.toList = l at *
  clear hN hall hlen hvt
  go_enter Tryz.func101, Tryz.ntmps101
  go_wp2
  go_loopw [3, 4] (fun v e wr => ∃ (k : Nat) (p : List Nat), e = .int .i64 ((s.size : Int) - 6 * (k : Int)) ∧ 6 * k ≤ s.size + 5 ∧ Hid (p.length = k) ∧ Hid (∀ d ∈ p, d < 1000000) ∧ Hid (OwnV wr w.heap.size v (p.map fun d : Nat => (d : Int))) ∧ Hid (Na.lv p = Na.val (l.drop (s.size - 6 * k))) ∧ Below w.heap.size w wr) (fun _ e _ => (intOf e).toNat)
  case atStart => exact ⟨0, [], by first | rfl | (congr 1; omega), by omega, Lib.hid rfl, Lib.hid (by simp), Lib.hid (World.ownsRow_nil w _ _ _), Lib.hid (by simp only [Nat.mul_zero, Nat.sub_zero]; rw [HDA.out, Na.val_nil, Na.lv_nil]), Below.refl _ _⟩
  case round =>
    obtain ⟨k, p, eij, hk, HPL, HPD, HO, HV, hb⟩ := hrel
    by_cases h0 : s.size ≤ 6 * k
    · subst eij
      have hk0 : 0 < k := by omega
      have hpn : (p.map fun d : Nat => (d : Int)) ≠ [] := by
        intro e
        have := HPL.out
        rw [List.map_eq_nil_iff.1 e] at this
        simp at this
        omega
      obtain ⟨g, c, rfl, ho⟩ := HO.out.form hpn
      have hml : (p.map fun d : Nat => (d : Int)).length = p.length := by simp
      have hv : Na.lv p = Na.val l := by
        rw [HV.out, show s.size - 6 * k = 0 by omega, List.drop_zero]
      have hf := ho.facts
      rw [hml] at hf
      have TR := Lib.hid (trimmed_any (some ⟨g, 0, none⟩) p c wr (ho.ints rfl) (by rw [HPL.out]; omega) hf.2.2.1 hf.2.2.2 HPD.out)
      have HI := Lib.hid (ho.lim HPD.out)
      have hle : (Na.lim (Na.lv p)).length ≤ c := by
        refine Nat.le_trans ?_ hf.2.2.1
        have := Na.lim_take p HPD.out
        rw [this, List.length_take]
        omega
      rw [hv] at TR HI hle
      rw [hml]
      clear hpn ho hv hml HO HV HPD
      go_wp2_with fail
      refine TR.out.mono ?_
      rintro e w1 ⟨rfl, rfl⟩
      go_wp2_with fail
      go_ret
      exact ⟨_, c, rfl, HI.out, hle, hf.2.2.2, hb⟩
    · obtain ⟨en, hen⟩ : ∃ en, en = s.size - 6 * k := ⟨_, rfl⟩
      obtain rfl := eij.trans (show Value.int .i64 ((s.size : Int) - 6 * (k : Int)) = .int .i64 (en : Int) by congr 1; omega)
      clear eij
      have hen0 : 0 < en := by omega
      have hens : en ≤ s.size := by omega
      obtain ⟨st, hst⟩ : ∃ st, st = en - 6 := ⟨_, rfl⟩
      have hmx : (6 < en ∧ (en : Int) - 6 = (st : Int)) ∨ (en ≤ 6 ∧ st = 0) := by omega
      rw [← hen] at HV
      have hkk : 6 * (k + 1) ≤ s.size + 5 := by omega
      have HEND := Lib.hid (And.intro (show s.size - 6 * (k + 1) = st by omega) (And.intro (show s.size - en = 6 * k by omega) (show (en : Int) - 6 = (s.size : Int) - 6 * ((k + 1 : Nat) : Int) by omega)))
      clear hen hk h0
      rcases hmx with ⟨h6, hsi⟩ | ⟨h6, hs0⟩
      · have HSI := Lib.hid hsi
        go_wp2
        go_loop [5, 6] (fun q i => ∃ j v : Nat, j ≤ en - st ∧ i = .int .i64 ((st + j : Nat) : Int) ∧ q = .int .i64 (v : Int) ∧ v < 1000000 ∧ Hid (v = Na.val ((l.drop st).take j))) (fun _ i => en - (intOf i).toNat)
        case atStart => exact ⟨0, 0, by omega, by first | rfl | (congr 1; omega), rfl, by omega, Lib.hid (by simp [Na.val_nil])⟩
        case round =>
          obtain ⟨j, v, hj, rfl, rfl, hv, HVV⟩ := hrel
          by_cases hje : st + j < en
          · obtain ⟨a, ha⟩ : ∃ a, a = st + j := ⟨_, rfl⟩
            have hel : a < s.size := by omega
            obtain ⟨d, hd, hsd, hval⟩ := HVT.out st j a ha hel
            have hv1 := HVL.out st (j + 1) (by omega)
            rw [hval, ← HVV.out] at hv1
            have HVV' : Hid (v * 10 + d = Na.val ((l.drop st).take (j + 1))) := Lib.hid (by rw [hval, ← HVV.out])
            have hjj : j + 1 ≤ en - st := by omega
            have hae : a < en := by omega
            have hej : st + (j + 1) = a + 1 := by omega
            have HEJ := Lib.hid hej
            rw [← ha]
            clear hval hej hje ha
            go_wp2
            exact ⟨⟨j + 1, v * 10 + d, hjj, by rw [HEJ.out]; go_num, by go_num, hv1, HVV'⟩, by simp [intOf]; omega⟩
          · obtain rfl : j = en - st := by omega
            have he : st + (en - st) = en := by omega
            have hnl : (p.map fun d : Nat => (d : Int)).length + 1 ≤ 1000000 := by rw [List.length_map, HPL.out]; omega
            have hbx : Below wr.heap.size wr (wr.alloc (.cells #[.int .i64 (v : Int)] 3)) := (Below.refl _ _).alloc (Nat.le_refl _) _
            have HO2 := Lib.hid (HO.out.below hbx)
            have hbw2 := Nb hb hbx
            have HNV : Hid (Na.lv (p ++ [v]) = Na.val (l.drop st)) := Lib.hid (by
              have h1 := HVS.out st en (by omega) hens
              rw [lv_snoc, HPL.out, HV.out, h1, ← HVV.out, HEND.out.2.1, ← pow6]
              generalize Na.val (l.drop en) = t1
              generalize 1000000 ^ k = t2
              rw [Nat.mul_comm v t2]
              omega)
            rw [he]
            clear HVV he hbx HVS
            go_wp2_with (first
              | (at_builtin
                 refine list_appendZ rfl (.tmp 29) (.tmp 31) 72 rfl rfl w.heap.size _ (p.map fun d : Nat => (d : Int)) rfl HO2.out ⟨wr.heap.size, 0, none⟩ 1 1 [(v : Int)] rfl rfl (ints_src (box_ints (heap_alloc_new _ _)) (Below.refl _ _)) (by omega) hnl hbw2.size ?_
                 intro g2 c2 w2 ho2 hb2
                 have HO3 := Lib.hid ho2
                 have hbw3 := hbw2.trans hb2
                 clear ho2 hb2)
              | fail)
            refine ⟨⟨k + 1, p ++ [v], by congr 1; have := HEND.out.2.2; omega, hkk, Lib.hid (by rw [List.length_append, HPL.out]; rfl), Lib.hid ?_, Lib.hid ?_, Lib.hid ?_, hbw3⟩, ?_⟩
            · intro d hd
              rcases List.mem_append.1 hd with h | h
              · exact HPD.out d h
              · rw [show d = v by simpa using h]; exact hv
            · have := HO3.out
              unfold OwnZ at this
              unfold OwnV
              rw [List.map_append]
              simpa using this
            · rw [HNV.out, HEND.out.1]
            · simp [intOf]; omega
      · go_wp2
        go_loop [5, 6] (fun q i => ∃ j v : Nat, j ≤ en - st ∧ i = .int .i64 ((st + j : Nat) : Int) ∧ q = .int .i64 (v : Int) ∧ v < 1000000 ∧ Hid (v = Na.val ((l.drop st).take j))) (fun _ i => en - (intOf i).toNat)
        case atStart => exact ⟨0, 0, by omega, by first | rfl | (congr 1; omega), rfl, by omega, Lib.hid (by simp [Na.val_nil])⟩
        case round =>
          obtain ⟨j, v, hj, rfl, rfl, hv, HVV⟩ := hrel
          by_cases hje : st + j < en
          · obtain ⟨a, ha⟩ : ∃ a, a = st + j := ⟨_, rfl⟩
            have hel : a < s.size := by omega
            obtain ⟨d, hd, hsd, hval⟩ := HVT.out st j a ha hel
            have hv1 := HVL.out st (j + 1) (by omega)
            rw [hval, ← HVV.out] at hv1
            have HVV' : Hid (v * 10 + d = Na.val ((l.drop st).take (j + 1))) := Lib.hid (by rw [hval, ← HVV.out])
            have hjj : j + 1 ≤ en - st := by omega
            have hae : a < en := by omega
            have hej : st + (j + 1) = a + 1 := by omega
            have HEJ := Lib.hid hej
            rw [← ha]
            clear hval hej hje ha
            go_wp2
            exact ⟨⟨j + 1, v * 10 + d, hjj, by rw [HEJ.out]; go_num, by go_num, hv1, HVV'⟩, by simp [intOf]; omega⟩
          · obtain rfl : j = en - st := by omega
            have he : st + (en - st) = en := by omega
            have hnl : (p.map fun d : Nat => (d : Int)).length + 1 ≤ 1000000 := by rw [List.length_map, HPL.out]; omega
            have hbx : Below wr.heap.size wr (wr.alloc (.cells #[.int .i64 (v : Int)] 3)) := (Below.refl _ _).alloc (Nat.le_refl _) _
            have HO2 := Lib.hid (HO.out.below hbx)
            have hbw2 := Nb hb hbx
            have HNV : Hid (Na.lv (p ++ [v]) = Na.val (l.drop st)) := Lib.hid (by
              have h1 := HVS.out st en (by omega) hens
              rw [lv_snoc, HPL.out, HV.out, h1, ← HVV.out, HEND.out.2.1, ← pow6]
              generalize Na.val (l.drop en) = t1
              generalize 1000000 ^ k = t2
              rw [Nat.mul_comm v t2]
              omega)
            rw [he]
            clear HVV he hbx HVS
            go_wp2_with (first
              | (at_builtin
                 refine list_appendZ rfl (.tmp 29) (.tmp 31) 72 rfl rfl w.heap.size _ (p.map fun d : Nat => (d : Int)) rfl HO2.out ⟨wr.heap.size, 0, none⟩ 1 1 [(v : Int)] rfl rfl (ints_src (box_ints (heap_alloc_new _ _)) (Below.refl _ _)) (by omega) hnl hbw2.size ?_
                 intro g2 c2 w2 ho2 hb2
                 have HO3 := Lib.hid ho2
                 have hbw3 := hbw2.trans hb2
                 clear ho2 hb2)
              | fail)
            refine ⟨⟨k + 1, p ++ [v], by congr 1; have := HEND.out.2.2; omega, hkk, Lib.hid (by rw [List.length_append, HPL.out]; rfl), Lib.hid ?_, Lib.hid ?_, Lib.hid ?_, hbw3⟩, ?_⟩
            · intro d hd
              rcases List.mem_append.1 hd with h | h
              · exact HPD.out d h
              · rw [show d = v by simpa using h]; exact hv
            · have := HO3.out
              unfold OwnZ at this
              unfold OwnV
              rw [List.map_append]
              simpa using this
            · rw [HNV.out, HEND.out.1]
            · simp [intOf]; omega
end Go.Proofs.YtmnnaaifebajnaaGreatDoor
