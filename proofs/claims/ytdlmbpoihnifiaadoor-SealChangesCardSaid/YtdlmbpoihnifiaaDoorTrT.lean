/- The reference's Shown: true, if two different texts have one digest. -/
import Derived.Test.YtdlmbpoihnifiaaDoorTrO
import Derived.Test.YtdlmbpoihnifiaaDoorTrQ
import Derived.Test.YtdlmbpoihnifiaaDoorDgT
import Derived.WalkKit
import Derived.Below
import Derived.LoopTactic
import Derived.Outline
import Derived.Lib.Hide
import Derived.BigQuiet
import Derived.Deep.QuietTactic
import Derived.Deep.Draws
namespace Go.Proofs.YtdlmbpoihnifiaaDoor
open Go.RowKit
set_option maxRecDepth 100000

theorem below_drewN' (w : World) (q : Nat) : Below w.heap.size w (w.drewN q) := ⟨rfl, rfl, rfl, Nat.le_refl _, fun _ _ => rfl⟩

def Twice (l : List ByteArray) (i k : Nat) : Prop := Tr.sm (l.getD i ByteArray.empty) = Tr.sm (l.getD k ByteArray.empty) ∧ l.getD i ByteArray.empty ≠ l.getD k ByteArray.empty

theorem twice_of (l : List ByteArray) (h : Tr.Shown l) : ∃ i k, k < i ∧ i < l.length ∧ Twice l i k := by
  obtain ⟨x, hx, y, hy, hne, he⟩ := h
  obtain ⟨i, hi, rfl⟩ := List.getElem_of_mem hx
  obtain ⟨k, hk, rfl⟩ := List.getElem_of_mem hy
  have g : ∀ j (hj : j < l.length), l.getD j ByteArray.empty = l[j] := fun j hj => by rw [List.getD_eq_getElem?_getD, List.getElem?_eq_getElem hj]; rfl
  rcases Nat.lt_trichotomy i k with h | h | h
  · exact ⟨k, i, h, hk, by rw [g k hk, g i hi]; exact he.symm, by rw [g k hk, g i hi]; exact fun e => hne e.symm⟩
  · subst h
    exact absurd rfl hne
  · exact ⟨i, k, h, hi, by rw [g k hk, g i hi]; exact he, by rw [g k hk, g i hi]; exact hne⟩

theorem map_take_snoc (l : List ByteArray) (k : Nat) (h : k < l.length) : (l.take (k + 1)).map Tr.sm = (l.take k).map Tr.sm ++ [Tr.sm (l.getD k ByteArray.empty)] := by
  rw [take_snoc l ByteArray.empty k h, List.map_append]
  rfl

theorem getD_map_sm (l : List ByteArray) (k : Nat) (h : k < l.length) : (l.map Tr.sm).getD k ByteArray.empty = Tr.sm (l.getD k ByteArray.empty) := by
  rw [List.getD_eq_getElem?_getD, List.getD_eq_getElem?_getD, List.getElem?_map, List.getElem?_eq_getElem h]
  rfl

set_option maxHeartbeats 1000000 in
theorem shown_any (A : Option Addr) (c : Nat) (l : List ByteArray) (w : World) (hs : Strs w w.heap.size A l) (hn : l.length ≤ 100000) (hz : ∀ s ∈ l, s.size ≤ 140737488355328) (hsh : Tr.Shown l) :
    Calls Tryd.prog 22 #[.slice A l.length c] w fun e w' => e = .returned (.bool true) ∧ Below w.heap.size w w' := by
  have HSH := Lib.hid (twice_of l hsh)
  have HS := Lib.hid hs
  clear hsh hs
  go_enter Tryd.func22, Tryd.ntmps22
  go_wp2
  go_loopw [3, 4] (fun v i wr => ∃ k : Nat, k ≤ l.length ∧ i = .int .i64 k ∧ Below w.heap.size w wr ∧ OwnS wr w.heap.size v ((l.take k).map Tr.sm)) (fun _ i _ => l.length - (intOf i).toNat)
  case atStart => exact ⟨0, by omega, rfl, Below.refl _ _, OwnS.nil _ _⟩
  case round =>
    obtain ⟨k, hk, rfl, hb, hown⟩ := hrel
    by_cases hlt : k < l.length
    · obtain ⟨ad, rfl, _, hc⟩ := (HS.out.bt hb) k hlt
      have hm : l.getD k ByteArray.empty ∈ l := by
        rw [List.getD_eq_getElem?_getD, List.getElem?_eq_getElem hlt]
        exact List.getElem_mem _
      have hx := hz _ hm
      have MT := Lib.hid (map_take_snoc l k hlt)
      have hlen : ((l.take k).map Tr.sm).length ≤ 1000000 := by simp; omega
      have HB := Lib.hid hb
      have HO := Lib.hid hown
      clear hm hb hown
      generalize l.getD k ByteArray.empty = x at *
      go_wp2_with fail
      refine (rsum_any x wr hx).mono ?_
      rintro e w1 ⟨rfl, rfl⟩
      go_wp2_with (first
        | (at_builtin
           refine list_append1 rfl (.tmp 13) (.tmp 19) rfl w.heap.size _ _ rfl (own_below HO.out ((Below.refl _ _).alloc (Nat.le_refl _) (.cells #[.string (Tr.sm x)] 9))) _ rfl (Tr.sm x) 9 (heap_alloc_new wr _) hlen (HB.out.alloc HB.out.size _).size ?_
           intro v2 w2 ho2 hb2)
        | fail)
      refine ⟨⟨k + 1, by omega, by go_num, (HB.out.alloc HB.out.size _).trans hb2, ?_⟩, by simp [intOf]; omega⟩
      rw [MT.out]
      exact ho2
    · obtain rfl : k = l.length := by omega
      rw [List.take_length] at hown
      obtain ⟨A1, c1, rfl, hs1, hc1, hm1⟩ := hown.form
      have HS1 := Lib.hid hs1
      have HSW := Lib.hid (HS.out.bt hb)
      have HB := Lib.hid hb
      clear hs1 hb hown
      have hml : (l.map Tr.sm).length = l.length := by simp
      rw [hml] at hc1 ⊢
      clear hml
      go_wp2_with fail
      go_loopw [5] (fun i w2 => ∃ a q : Nat, a ≤ l.length ∧ i = .int .i64 a ∧ w2 = wr.drewN q ∧ Hid (∀ i' k', i' < a → k' < i' → ¬ Twice l i' k')) (fun i _ => l.length - (intOf i).toNat)
      case atStart => exact ⟨0, 0, by omega, rfl, rfl, fun i' k' h => absurd h (by omega)⟩
      case round =>
        obtain ⟨a, q, ha, rfl, rfl, HA⟩ := hrel
        by_cases hal : a < l.length
        · obtain ⟨ad, rfl, _, hca⟩ := HSW.out a hal
          obtain ⟨ad1, rfl, _, hcs⟩ := HS1.out a (by simpa using hal)
          rw [getD_map_sm l a hal] at hcs
          go_wp2_with fail
          go_loopw [6] (fun i w2 => ∃ b q : Nat, b ≤ a ∧ i = .int .i64 b ∧ w2 = wr.drewN q ∧ Hid (∀ k', k' < b → ¬ Twice l a k')) (fun i _ => a - (intOf i).toNat)
          case atStart => exact ⟨0, q, by omega, rfl, rfl, fun k' h => absurd h (by omega)⟩
          case round =>
            obtain ⟨b, q, hb', rfl, rfl, HK⟩ := hrel
            by_cases hbl : b < a
            · obtain ⟨ad', e, _, hcb⟩ := HSW.out b (by omega)
              cases e
              obtain ⟨ad1', e, _, hct⟩ := HS1.out b (by simp; omega)
              cases e
              rw [getD_map_sm l b (by omega)] at hct
              have HT : Hid (Twice l a b ↔ Tr.sm (l.getD a ByteArray.empty) = Tr.sm (l.getD b ByteArray.empty) ∧ l.getD a ByteArray.empty ≠ l.getD b ByteArray.empty) := Iff.rfl
              have i1 : (b : Int) < (l.length : Int) := by omega
              have i2 : (b : Int) < ((l.map Tr.sm).length : Int) := by simp; omega
              generalize l.getD a ByteArray.empty = x at *
              generalize l.getD b ByteArray.empty = y at *
              have HBB := Lib.hid HB.out
              by_cases hxy : Tr.sm x = Tr.sm y
              · by_cases hne : x = y
                · have hno : ¬ Twice l a b := fun h => (HT.out.1 h).2 hne
                  have HN := Lib.hid hno
                  subst hne
                  clear hno hxy
                  go_wp2_with fail
                  go_quiet (fail)
                  go_wp2_with fail
                  exact ⟨⟨b + 1, q + nq, by omega, by go_num, rfl, fun k' hk' => by
                    rcases Nat.lt_or_ge k' b with h | h
                    · exact HK.out k' h
                    · obtain rfl : k' = b := by omega
                      exact HN.out⟩, by simp [intOf]; omega⟩
                · have h1 := bytes_ne hne
                  have h2 : ((Tr.sm x).toList == (Tr.sm y).toList) = true := by rw [hxy]; simp
                  clear hxy hne
                  go_wp2_with fail
                  go_quiet (fail)
                  go_wp2_with fail
                  go_ret
                  exact ⟨rfl, Bt (Bt HBB.out (below_drewN' wr q)) (below_drewN' _ nq)⟩
              · have hno : ¬ Twice l a b := fun h => hxy (HT.out.1 h).1
                have HN := Lib.hid hno
                have h2 := bytes_ne hxy
                clear hno hxy
                go_wp2_with fail
                go_quiet (fail)
                go_wp2_with fail
                exact ⟨⟨b + 1, q + nq, by omega, by go_num, rfl, fun k' hk' => by
                  rcases Nat.lt_or_ge k' b with h | h
                  · exact HK.out k' h
                  · obtain rfl : k' = b := by omega
                    exact HN.out⟩, by simp [intOf]; omega⟩
            · obtain rfl : b = a := by omega
              go_wp2_with fail
              refine ⟨⟨b + 1, q, by omega, by go_num, rfl, fun i' k' h1 h2 => ?_⟩, by simp [intOf]; omega⟩
              rcases Nat.lt_or_ge i' b with h | h
              · exact HA.out i' k' h h2
              · obtain rfl : i' = b := by omega
                exact HK.out k' h2
        · exfalso
          obtain ⟨i', k', h1, h2, h3⟩ := HSH.out
          exact HA.out i' k' (by omega) h1 h3

theorem shown_len (A : Option Addr) (c : Nat) (l : List ByteArray) (k : Nat) (hk : l.length = k) (w : World) (hs : Strs w w.heap.size A l) (hn : k ≤ 100000) (hz : ∀ s ∈ l, s.size ≤ 140737488355328) (hsh : Tr.Shown l) :
    Calls Tryd.prog 22 #[.slice A k c] w fun e w' => e = .returned (.bool true) ∧ Below w.heap.size w w' := by
  subst hk
  exact shown_any A c l w hs hn hz hsh
end Go.Proofs.YtdlmbpoihnifiaaDoor
