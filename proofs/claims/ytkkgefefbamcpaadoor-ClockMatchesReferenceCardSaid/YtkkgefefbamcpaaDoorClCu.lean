/- strings.Cut at one byte, at texts of any size; Parse at texts that a machine can hold (layer 6). -/
import Derived.Test.YtkkgefefbamcpaaDoorClQ
import Derived.Test.YtkkgefefbamcpaaDoorShelfB
import Derived.Lib.CutLaws
set_option linter.unusedSimpArgs false
set_option linter.unusedVariables false
namespace Go.Proofs.YtkkgefefbamcpaaDoor
open Go.RowKit
set_option maxRecDepth 100000

theorem Cl.index_one : ∀ (l : List UInt8) (c : UInt8), Lib.index l [c] = Lib.indexByte l c
  | [], c => rfl
  | b :: l, c => by
    unfold Lib.index Lib.indexByte
    rw [Cl.index_one l c]
    have : ([c] : List UInt8).isPrefixOf (b :: l) = (b == c) := by
      simp [List.isPrefixOf]
      exact Bool.beq_comm
    rw [this]

set_option maxHeartbeats 1000000 in
theorem slcut_any (c : UInt8) (s : ByteArray) (w : World) (hs : s.size ≤ 281474976710656) :
    Calls Tryd.prog 40 #[.string s, .string ⟨#[c]⟩] w fun e w' => e = .returned (.tuple #[.string ⟨(Lib.cut s.data.toList [c]).1.toArray⟩, .string ⟨(Lib.cut s.data.toList [c]).2.1.toArray⟩, .bool (Lib.cut s.data.toList [c]).2.2]) ∧ ∃ n, w' = w.drewN n := by
  have IX := Lib.hid (fun v => Tryd.stringslite_Index_one s c v)
  have hsep : (⟨#[c]⟩ : ByteArray).size = 1 := rfl
  rcases Lib.indexB_cases s ⟨#[c]⟩ with hix | ⟨i, hix, hroom⟩
  · obtain ⟨e1, e2, e3⟩ := Lib.cutB_miss s ⟨#[c]⟩ hix
    have e1' : (⟨(Lib.cut s.data.toList [c]).1.toArray⟩ : ByteArray) = _ := e1
    have e2' : (⟨(Lib.cut s.data.toList [c]).2.1.toArray⟩ : ByteArray) = _ := e2
    have e3' : (Lib.cut s.data.toList [c]).2.2 = _ := e3
    have hix' : Lib.index s.data.toList [c] = -1 := hix
    rw [Cl.index_one] at hix'
    rw [e1', e2', e3']
    rw [hix'] at IX
    clear e1 e2 e3 e1' e2' e3' hix hix'
    go_enter Tryd.func40, Tryd.ntmps40
    go_wp2_with fail
    refine (IX.out _).mono ?_
    rintro e w' ⟨rfl, rfl⟩
    go_wp2_with fail
    go_ret3
    exact ⟨rfl, 0, rfl⟩
  · obtain ⟨e1, e2, e3⟩ := Lib.cutB_hit s ⟨#[c]⟩ i hix
    have e1' : (⟨(Lib.cut s.data.toList [c]).1.toArray⟩ : ByteArray) = _ := e1
    have e2' : (⟨(Lib.cut s.data.toList [c]).2.1.toArray⟩ : ByteArray) = _ := e2
    have e3' : (Lib.cut s.data.toList [c]).2.2 = _ := e3
    have hix' : Lib.index s.data.toList [c] = (i : Int) := hix
    rw [Cl.index_one] at hix'
    rw [e1', e2', e3']
    rw [hix'] at IX
    have c1 : (0 : Int) ≤ ↑i := by omega
    have c2 : (↑i : Int) ≤ ↑s.size := by omega
    have c3 : (0 : Int) ≤ ↑i + 1 := by omega
    have c4 : (↑i + 1 : Int) ≤ ↑s.size := by omega
    clear e1 e2 e3 e1' e2' e3' hix hix'
    go_enter Tryd.func40, Tryd.ntmps40
    go_wp2_with fail
    refine (IX.out _).mono ?_
    rintro e w' ⟨rfl, rfl⟩
    go_wp2_with fail
    go_region
    go_wp2_with fail
    go_ret3
    exact ⟨rfl, 1, rfl⟩
theorem Cl.cut1_any (c : UInt8) (s : ByteArray) (w : World) (hs : s.size ≤ 281474976710656) :
    Calls Tryd.prog 35 #[.string s, .string ⟨#[c]⟩] w fun e w' => e = .returned (.tuple #[.string ⟨(Cl.cutAt c s.data.toList).1.toArray⟩, .string ⟨(Cl.cutAt c s.data.toList).2.1.toArray⟩, .bool (Cl.cutAt c s.data.toList).2.2]) ∧ Below w.heap.size w w' := by
  have C := Lib.hid (slcut_any c s w hs)
  rw [Cl.cut_at] at C
  go_enter Tryd.func35, Tryd.ntmps35
  go_wp2_with fail
  refine C.out.mono ?_
  rintro e w' ⟨rfl, n, rfl⟩
  go_wp2_with fail
  go_ret3
  exact ⟨rfl, ⟨rfl, rfl, rfl, Nat.le_refl _, fun _ _ => rfl⟩⟩

theorem Cl.atoi_big (s : ByteArray) (w : World) (hs : s.size ≤ 281474976710656) (hp : PowC w.heap.size w) :
    Calls Tryd.prog 36 #[.string s] w fun e w' => ∃ ev, e = .returned (.tuple #[.int .i64 (Cl.atoiV s.data.toList), ev]) ∧ Below w.heap.size w w' := by
  unfold Cl.atoiV
  cases h : Lib.atoiAll s.data.toList with
  | ok v =>
    refine (Tryd.strconv_Atoi_ok s (by omega) v h w).mono ?_
    rintro e w' ⟨rfl, hw⟩
    refine ⟨_, rfl, ?_⟩
    rcases hw with rfl | ⟨t, rfl⟩
    · exact Below.refl _ _
    · exact Lib.bytesWorld_below _ _ _
  | «syntax» =>
    obtain ⟨te, pe, hc⟩ := hp.es
    refine (Tryd.strconv_Atoi_syntax s (by omega) h (.iface te pe) w hc (.inr ⟨te, pe, rfl⟩)).mono ?_
    rintro e w' ⟨N, rfl, _, _, hb⟩
    exact ⟨_, rfl, hb⟩
  | range =>
    obtain ⟨te, pe, hc⟩ := hp.er
    refine (Tryd.strconv_Atoi_range s (by omega) h (.iface te pe) w hc (.inr ⟨te, pe, rfl⟩)).mono ?_
    rintro e w' ⟨N, rfl, _, _, hb⟩
    exact ⟨_, rfl, hb⟩

/-- Parse at every text. -/
theorem parse_big (s : ByteArray) (w : World) (hs : s.size ≤ 281474976710656) (hp : PowC w.heap.size w) :
    Calls Tryd.prog 20 #[.string s] w fun e w' => e = .returned (.tuple #[.int .i64 (Cl.parseF s).1, .int .i64 (Cl.parseF s).2]) ∧ Below w.heap.size w w' := by
  have l1 := Cl.cutAt_len 47 s.data.toList
  have hs' : s.data.toList.length = s.size := Array.length_toList
  have l2 := Cl.cutAt_len 58 (Cl.cutAt 47 s.data.toList).2.1
  have C1 := Lib.hid (fun v (_ : Below w.heap.size w v) => Cl.cut1_any 47 s v hs)
  have C2 := Lib.hid (fun v (_ : Below w.heap.size w v) => Cl.cut1_any 58 ⟨(Cl.cutAt 47 s.data.toList).2.1.toArray⟩ v (by rw [Cl.bsize]; omega))
  have A1 := Lib.hid (fun v (h : Below w.heap.size w v) => Cl.atoi_big ⟨(Cl.cutAt 47 s.data.toList).1.toArray⟩ v (by rw [Cl.bsize]; omega) (hp.bt h))
  have A2 := Lib.hid (fun v (h : Below w.heap.size w v) => Cl.atoi_big ⟨(Cl.cutAt 58 (Cl.cutAt 47 s.data.toList).2.1).1.toArray⟩ v (by rw [Cl.bsize]; omega) (hp.bt h))
  have A3 := Lib.hid (fun v (h : Below w.heap.size w v) => Cl.atoi_big ⟨(Cl.cutAt 58 (Cl.cutAt 47 s.data.toList).2.1).2.1.toArray⟩ v (by rw [Cl.bsize]; omega) (hp.bt h))
  have hl : ∀ l : List UInt8, (⟨l.toArray⟩ : ByteArray).data.toList = l := fun l => rfl
  rw [hl] at C2 A1 A2 A3
  have T := Lib.hid (fun v (h : Below w.heap.size w v) => text_any (wrap64 (wrap64 (wrap64 (Cl.atoiV (Cl.cutAt 47 s.data.toList).1 * 1440) + wrap64 (Cl.atoiV (Cl.cutAt 58 (Cl.cutAt 47 s.data.toList).2.1).1 * 60)) + Cl.atoiV (Cl.cutAt 58 (Cl.cutAt 47 s.data.toList).2.1).2.1)) v (hp.bt h))
  refine parse_walk s _ _ _ _ _ _ _ _ _ _ _ (Cl.parseF s) w ?_ C1 C2 A1 A2 A3 T
  by_cases hx : ∃ t : Nat, t ≤ 144001439 ∧ Cl.txt t = s
  · obtain ⟨t, ht, rfl⟩ := hx
    rw [Cl.txt_list, Cl.txl_cut]
    dsimp only
    rw [Cl.txl_cut2]
    dsimp only
    have e1 : Cl.atoiV (Lib.decDigits (t / 1440)) = ((t / 1440 : Nat) : Int) := by unfold Cl.atoiV; rw [Cl.atoi_dec (by omega)]
    have e2 : Cl.atoiV (Cl.tw (t % 1440 / 60)) = ((t % 1440 / 60 : Nat) : Int) := by unfold Cl.atoiV; rw [Cl.atoi_tw (by omega)]
    have e3 : Cl.atoiV (Cl.tw (t % 1440 % 60)) = ((t % 1440 % 60 : Nat) : Int) := by unfold Cl.atoiV; rw [Cl.atoi_tw (by omega)]
    rw [e1, e2, e3, Cl.w64 (n := ((t / 1440 : Nat) : Int) * 1440) (by omega), Cl.w64 (n := ((t % 1440 / 60 : Nat) : Int) * 60) (by omega), Cl.w64 (n := ((t / 1440 : Nat) : Int) * 1440 + ((t % 1440 / 60 : Nat) : Int) * 60) (by omega), Cl.w64 (n := ((t / 1440 : Nat) : Int) * 1440 + ((t % 1440 / 60 : Nat) : Int) * 60 + ((t % 1440 % 60 : Nat) : Int)) (by omega)]
    rw [show ((t / 1440 : Nat) : Int) * 1440 + ((t % 1440 / 60 : Nat) : Int) * 60 + ((t % 1440 % 60 : Nat) : Int) = (t : Int) by omega]
    have hi : Cl.isI (t : Int) = true := (Cl.isI_iff _).2 (by omega)
    unfold Cl.textF
    rw [hi, Cl.parseF_txt ht]
    exact .inr (.inr ⟨rfl, by simp, rfl⟩)
  · have hn : ∀ t : Nat, t ≤ 144001439 → Cl.txt t ≠ s := fun t h1 h2 => hx ⟨t, h1, h2⟩
    rw [Cl.parseF_not hn]
    generalize wrap64 (wrap64 (wrap64 (Cl.atoiV (Cl.cutAt 47 s.data.toList).1 * 1440) + wrap64 (Cl.atoiV (Cl.cutAt 58 (Cl.cutAt 47 s.data.toList).2.1).1 * 60)) + Cl.atoiV (Cl.cutAt 58 (Cl.cutAt 47 s.data.toList).2.1).2.1) = n
    unfold Cl.textF
    by_cases hi : Cl.isI n = true
    · rw [if_pos hi]
      have h2 := (Cl.isI_iff _).1 hi
      exact .inr (.inl ⟨rfl, Cl.bytes_ne (hn _ (by omega)), rfl⟩)
    · rw [if_neg hi]
      exact .inl ⟨by decide, rfl⟩
end Go.Proofs.YtkkgefefbamcpaaDoor
