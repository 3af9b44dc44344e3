/- Layer 10: forms of a search. -/
import Derived.Test.YtkddpealobeleaaGreatDoorRwZA
import Derived.StillTailTactics
set_option linter.unusedSimpArgs false
set_option linter.unusedVariables false
namespace Go.Proofs.YtkddpealobeleaaGreatDoor
open Go.RowKit Go.Shelf
set_option maxRecDepth 100000
set_option maxHeartbeats 8000000
/-- What forms gives. -/
def Rw.FoPost (w : World) (RU : List Rw.Ru) (L : List Nm.T) (rv : List Nat) (most : Int) (n : Nat) (e : Ending) (w' : World) : Prop := Below w.heap.size w w' ∧
  ((∃ M b, e = .returned (.tuple #[.map (some b), .bool true]) ∧ Rw.Sea RU L (fun p => rv.getD p 0) most M n ∧ Rw.Bd n M ∧ (M n).length ≤ 1000 ∧ Rw.MT w' b (M n)) ∨
   (e = .returned (.tuple #[.map none, .bool false]) ∧ ∃ M p, 1 ≤ p ∧ p ≤ n ∧ Rw.Sea RU L (fun p => rv.getD p 0) most M p ∧ 1000 < (M p).length))
theorem Rw.forms_any (gs gr sb K n : Nat) (most : Int) (vs : List Value) (rv : List Nat) (st : Nat → List Rw.Sp) (RU : List Rw.Ru) (L : List Nm.T) (w : World) (h : Rw.Ns w gs gr sb K n most vs rv st) (hL : L.length = n) (hst : st = Rw.steps RU L) (hr : Rw.Right RU L n 0 rv) (hg : Rw.Good RU) (h1 : 1 ≤ n) (hn : n ≤ 12) :
    Calls Tryz.prog 38 #[.agg #[.slice (some ⟨gs, 0, none⟩) n n, .slice (some ⟨gr, 0, none⟩) (n + 1) (n + 1), .int .i64 most]] w (Rw.FoPost w RU L rv most n) := by
  have hm := Rw.make_ms n (by omega)
  have HB0 := Lib.hid (Rw.Fb.start h)
  have HO := Lib.hid h.old
  have HKW := Lib.hid h.sz
  have HR := Lib.hid hr
  have HG := Lib.hid hg
  have HL := Lib.hid hL
  have HST := Lib.hid hst
  clear h hr hg hL hst
  go_enter Tryz.func38, Tryz.ntmps38
  go_wp2_with fail
  clear hm
  have hmm := @run_makeMap Tryz.prog
  go_loopw [19] (fun s19 wr => ∃ i : Nat, i ≤ n + 1 ∧ s19 = .int .i64 (i : Int) ∧ Hid (Rw.Fb w gs gr sb K n most vs rv st i wr)) (fun s19 _ => n + 1 - (intOf s19).toNat)
  case atStart => exact ⟨0, by omega, rfl, HB0⟩
  case round =>
    clear HB0
    obtain ⟨wr0, hwr0⟩ : ∃ wr0, wr = wr0 := ⟨_, rfl⟩
    rw [hwr0] at hrel ⊢
    clear hwr0
    obtain ⟨i, hi, rfl, HB⟩ := hrel
    by_cases hlt : i < n + 1
    · have hlti : (i : Int) < (n : Int) + 1 := by omega
      have hi0 : (0 : Int) ≤ (i : Int) := by omega
      have x0 := HB.out.cell
      have x1 := HB.out.there (by omega)
      have HN := Lib.hid (HB.out.step HKW.out HO.out)
      go_wp2
      exact ⟨⟨i + 1, by omega, by go_num, HN⟩, by simp [intOf]; omega⟩
    · obtain rfl : i = n + 1 := by omega
      have hlti : ¬ ((n : Int) + 1) < (n : Int) + 1 := by omega
      have HF := Lib.hid HB.out.done
      clear HB
      have t0 := HF.out.t 0 (by omega)
      have m0 := Lib.hid (HF.out.maps 0 (by omega))
      have hz0 : (0 : Int) < (n : Int) + 1 := by omega
      have HS0 : Hid (Rw.Sh []) := Lib.hid (by intro x hx; cases hx)
      have HN0 : Hid ((([] : Rw.Mp).map (·.1)).Nodup) := Lib.hid (by simp)
      go_wp2_with (with_reducible refine Rw.wp_store _ rfl _ _ _ rfl (w.heap.size + 2 + 0) [] rfl m0.out HS0.out HN0.out [] 0 rfl rfl (by simp) ?_; intro w3 hT3 hg3 hs3; have h3 := Lib.hid (HF.out.put (by omega) hT3 hg3); have z0 := h3.out.c0; clear hT3 hg3 hs3)
      have HSE : Hid (Rw.Sea RU L (fun p => rv.getD p 0) most (Rw.upd (fun _ => []) 0 (Rw.put [] [] 0)) 0) := Lib.hid (Rw.Sea.start RU L (fun p => rv.getD p 0) most)
      have HBD : Hid (Rw.Bd n (Rw.upd (fun _ => []) 0 (Rw.put [] [] 0))) := Lib.hid (fun p hp x hx => by
        unfold Rw.upd at hx
        by_cases e : p = 0
        · rw [if_pos e] at hx
          simp only [Rw.put, List.mem_singleton] at hx
          subst hx
          simp
        · rw [if_neg e] at hx
          cases hx)
      generalize Rw.upd (fun _ => []) 0 (Rw.put [] [] 0) = M0 at *
      clear HF m0 t0 z0 HS0 HN0 hmm
      go_loopw [33] (fun s33 wr => ∃ (i : Nat) (M : Nat → Rw.Mp), i ≤ n ∧ s33 = .int .i64 (i : Int) ∧ Hid (Rw.Fm w gs gr sb K n most vs rv st M wr) ∧ Hid (Rw.Sea RU L (fun p => rv.getD p 0) most M i) ∧ Hid (Rw.Bd n M) ∧ Hid (∀ p, 1 ≤ p → p ≤ i → (M p).length ≤ 1000)) (fun s33 _ => n - (intOf s33).toNat)
      case atStart => exact ⟨0, M0, by omega, rfl, h3, HSE, HBD, Lib.hid (fun p h1 h2 => by omega)⟩
      case round =>
        clear h3 HSE HBD
        obtain ⟨U, hU⟩ : ∃ U, wr = U := ⟨_, rfl⟩
        rw [hU] at hrel ⊢
        clear hU
        obtain ⟨i, M, hi, rfl, HF, HSE, HBD, HLE⟩ := hrel
        by_cases hin : i < n
        · have hini : (i : Int) < (n : Int) := by omega
          have hi0 : (0 : Int) ≤ (i : Int) := by omega
          have hi1 : (i : Int) < (n : Int) + 1 := by omega
          have hpv : i < vs.length := by rw [HF.out.ns.ls]; exact hin
          obtain ⟨A2, c2, hv, _, hc2, hc2m⟩ := (HF.out.ns.own i hpv).form Rw.okS
          obtain ⟨SL, hSL⟩ : ∃ SL, st i = SL := ⟨_, rfl⟩
          have x0 := HF.out.ns.s i hin
          rw [hv, hSL] at x0
          rw [hSL] at hv hc2
          have HV := Lib.hid hv
          have hbig := HF.out.big
          have HSL := Lib.hid hSL
          have t1 := HF.out.t i hi
          obtain ⟨l, hl⟩ : ∃ l, M i = l := ⟨_, rfl⟩
          have MI := HF.out.maps i hi
          rw [hl] at MI
          have HMI := Lib.hid MI
          have HI := Lib.hid (Rw.Iter.start MI).2
          have HF1 := Lib.hid (HF.out.bt (Nm.al U (.mapIter (some (w.heap.size + 2 + i)) l.length #[] l.length)))
          have HIN := Lib.hid (HSE.out.enter.congr (E := Rw.Dn l #[] SL) (fun g d s => (Rw.Dn.start l SL g d s).symm))
          have HLI := Lib.hid hl
          unfold maxLen at hc2m
          clear hv hSL MI hl HF HSE
          go_wp2_with (with_reducible refine Rw.wp_range _ rfl _ rfl (w.heap.size + 2 + i) l rfl HMI.out U.heap.size rfl ?_)
          go_frame
          generalize U.alloc (.mapIter (some (w.heap.size + 2 + i)) l.length #[] l.length) = U1 at *
          obtain ⟨r, hr⟩ : ∃ r, U.heap.size = r := ⟨_, rfl⟩
          rw [hr] at HI hbig ⊢
          clear hr HMI x0 t1
          go_loopw [] (fun wr => ∃ (seen : Array Nat) (N : Nat → Rw.Mp), Hid (N i = l) ∧ Hid (Rw.Fm w gs gr sb K n most vs rv st N wr) ∧ Hid (Rw.Iter wr (w.heap.size + 2 + i) r l seen) ∧ Hid (Rw.In RU L (fun p => rv.getD p 0) most N i (Rw.Dn l seen SL)) ∧ Hid (Rw.Bd n N) ∧ Hid (∀ p, 1 ≤ p → p ≤ i → (N p).length ≤ 1000)) (fun wr => Rw.leftN r l.length wr)
          case atStart => exact ⟨#[], M, HLI, HF1, HI, HIN, HBD, HLE⟩
          case round =>
            clear HF1 HI HIN HBD HLE HLI
            obtain ⟨seen, N, HLI, HF, HI, HIN, HBD, HLE⟩ := hrel
            have HM : Hid (Rw.leftN r l.length wr = l.length - seen.size) := Lib.hid HI.out.left
            go_wp2_with (at_next; refine Rw.wp_next _ rfl _ rfl (w.heap.size + 2 + i) r l seen rfl HI.out ?_ ?_)
            · intro hall
              have HSN : Hid (Rw.Sea RU L (fun p => rv.getD p 0) most N (i + 1)) := Lib.hid (HIN.out.leave (fun g d s => by
                rw [HLI.out, ← HST.out, HSL.out]
                exact Rw.Dn.all hall g d s))
              have t2 := HF.out.t (i + 1) (by omega)
              have hi2 : (0 : Int) ≤ (i : Int) + 1 := by omega
              have hi3 : (i : Int) + 1 < (n : Int) + 1 := by omega
              have HMN := Lib.hid (HF.out.maps (i + 1) (by omega))
              have hlen := HMN.out.len
              by_cases hb1 : 1000 < (N (i + 1)).length
              · have hb2 : (1000 : Int) < ((N (i + 1)).length : Int) := by omega
                have HB1 := Lib.hid hb1
                clear hall HI HIN HM hb1
                generalize (N (i + 1)).length = nl at hlen hb2
                go_wp2
                refine bodyPost_ret (v := .tuple #[.map none, .bool false]) (by simp [results, Tryz.f38, go_sem]) rfl ?_
                exact ⟨HF.out.below, .inr ⟨rfl, N, i + 1, by omega, by omega, HSN.out, HB1.out⟩⟩
              · have hb2 : ¬ (1000 : Int) < ((N (i + 1)).length : Int) := by omega
                have HLE2 : Hid (∀ p, 1 ≤ p → p ≤ i + 1 → (N p).length ≤ 1000) := Lib.hid (fun p h1 h2 => by
                  by_cases e : p = i + 1
                  · subst e
                    omega
                  · exact HLE.out p h1 (by omega))
                clear hall HI HIN HM hb1
                generalize (N (i + 1)).length = nl at hlen hb2
                go_wp2
                exact ⟨⟨i + 1, N, by omega, by go_num, HF, HSN, HBD, HLE2⟩, by simp [intOf]; omega⟩
            · intro j hj g0 d0 w2 hlj hns hI2 hg2 hs2 hen
              have HF2 := Lib.hid (HF.out.iter HI.out.it rfl hbig hg2)
              have HI2 := Lib.hid hI2
              have HM2 : Hid (l.length - (seen.push j).size < l.length - seen.size) := Lib.hid (by
                have h1 := hI2.le
                rw [Array.size_push] at h1 ⊢
                omega)
              have HJ := Lib.hid hj
              have hbd := HBD.out i hi (g0, d0) (by rw [HLI.out]; exact hlj ▸ List.getElem_mem hj)
              simp only at hbd
              have HLJ := Lib.hid hlj
              have HB0 := Lib.hid hbd
              have HIN2 := Lib.hid (HIN.out.congr (E := Rw.Dm l seen SL g0 d0 0) (fun g d s => (Rw.Dm.start l seen SL g0 d0 g d s).symm))
              clear hI2 hg2 hs2 hns HI HF HIN hlj hbd
              go_wp2_with fail
              clear hen
              go_loopw [50] (fun s50 wr3 => ∃ (k : Nat) (N2 : Nat → Rw.Mp), k ≤ SL.length ∧ s50 = .int .i64 (k : Int) ∧ Hid (N2 i = l) ∧ Hid (Rw.Fm w gs gr sb K n most vs rv st N2 wr3) ∧ Hid (Rw.Iter wr3 (w.heap.size + 2 + i) r l (seen.push j)) ∧ Hid (Rw.In RU L (fun p => rv.getD p 0) most N2 i (Rw.Dm l seen SL g0 d0 k)) ∧ Hid (Rw.Bd n N2) ∧ Hid (∀ p, 1 ≤ p → p ≤ i → (N2 p).length ≤ 1000)) (fun s50 _ => SL.length - (intOf s50).toNat)
              case atStart => exact ⟨0, N, by omega, rfl, HLI, HF2, HI2, HIN2, HBD, HLE⟩
              case round =>
                clear HLI HF2 HI2 HIN2 HBD HLE
                obtain ⟨U3, hU3⟩ : ∃ U3, wr = U3 := ⟨_, rfl⟩
                rw [hU3] at hrel ⊢
                clear hU3
                obtain ⟨k, N2, hk, rfl, HLI, HF, HI, HIN, HBD, HLE⟩ := hrel
                by_cases hkl : k < SL.length
                · have hkli : (k : Int) < (SL.length : Int) := by omega
                  have hk0 : (0 : Int) ≤ (k : Int) := by omega
                  obtain ⟨ad, hA, c0, c1, c2x⟩ := Rw.Ns.read HF.out.ns hpv HV.out HSL.out k hkl
                  subst hA
                  have hsb := Rw.step_bound (L := L) (p := i) (q := (SL[k]'hkl).1) (c := (SL[k]'hkl).2.1) (t := (SL[k]'hkl).2.2) HG.out (by rw [← HST.out, HSL.out]; exact List.getElem_mem _)
                  have HDS := Lib.hid (fun g d s => Rw.Dm.step l seen SL g0 d0 k hkl g d s)
                  obtain ⟨⟨nx, cy, tw⟩, hs⟩ : ∃ s, SL[k]'hkl = s := ⟨_, rfl⟩
                  rw [hs] at c0 c1 c2x hsb HDS
                  simp only at c0 c1 c2x hsb
                  rw [HL.out] at hsb
                  have HSB := Lib.hid hsb
                  have hbig3 := HF.out.big
                  have hA3 := Nm.al U3 (.cells #[.int .i64 (nx : Int), .int .i64 (cy : Int), .string (Nm.bt tw)] 130)
                  have HFA := Lib.hid (HF.out.bt hA3)
                  have HIA := Lib.hid (HI.out.keep (hA3.block _ (by omega)) (hA3.block _ (Array.getElem?_eq_some_iff.1 HI.out.it).1))
                  have HBN : Hid ((U3.alloc (.cells #[.int .i64 (nx : Int), .int .i64 (cy : Int), .string (Nm.bt tw)] 130)).heap[U3.heap.size]? = some (.cells #[.int .i64 (nx : Int), .int .i64 (cy : Int), .string (Nm.bt tw)] 130 (0, 0))) := Lib.hid (heap_alloc_new _ _)
                  have hd1 : (d0 : Int) ≤ 12000 := by have := HB0.out.2; omega
                  have hc1 : (cy : Int) ≤ 1000 := by omega
                  clear hs hsb hA3 HF HI
                  go_wp2_with fail
                  generalize hU4 : U3.alloc (.cells #[.int .i64 (nx : Int), .int .i64 (cy : Int), .string (Nm.bt tw)] 130) = U4 at *
                  clear hU4 c0 c1 c2x
                  have hrl : rv.length = n + 1 := HFA.out.ns.lr
                  have hnx := HSB.out
                  obtain ⟨rq, hrq⟩ : ∃ x, rv.getD nx 0 = x := ⟨_, rfl⟩
                  have hrq12 : rq ≤ 12001 := by rw [← hrq]; exact (HR.out nx (by omega) (by omega)).1
                  have y1 := HFA.out.c1
                  have y2 := HFA.out.c2
                  have y5 : U4.cell? ⟨gr, nx, none⟩ = some (.int .i64 (rq : Int)) := (HFA.out.ns.r nx (by omega)).trans (by
                    rw [List.getD_eq_getElem?_getD, List.getElem?_eq_getElem (by omega), Option.getD_some] at hrq
                    rw [hrq])
                  have hbv : U4.heap[U3.heap.size]? = some (.cells #[.int .i64 (nx : Int), .int .i64 (cy : Int), .string (Nm.bt tw)] 130 (0, 0)) := HBN.out
                  have y3 : U4.cell? ⟨U3.heap.size, 1, none⟩ = some (.int .i64 (cy : Int)) := by simp [World.cell?, hbv]
                  have y4 : U4.cell? ⟨U3.heap.size, 0, none⟩ = some (.int .i64 (nx : Int)) := by simp [World.cell?, hbv]
                  have y6 : U4.cell? ⟨U3.heap.size, 2, none⟩ = some (.string (Nm.bt tw)) := by simp [World.cell?, hbv]
                  have hn0 : (0 : Int) ≤ (nx : Int) := by omega
                  have hn1 : (nx : Int) < (n : Int) + 1 := by omega
                  have hr1 : (rq : Int) ≤ 12001 := by omega
                  have HRQ := Lib.hid hrq
                  clear hbv hrl hnx hrq hrq12
                  have hrs : ((d0 + cy + (fun p => rv.getD p 0) nx : Nat) : Int) = (d0 : Int) + (cy : Int) + (rq : Int) := by
                    show ((d0 + cy + rv.getD nx 0 : Nat) : Int) = _
                    rw [HRQ.out]
                    omega
                  have HRS := Lib.hid hrs
                  clear hrs
                  by_cases hle : (d0 : Int) + (cy : Int) + (rq : Int) ≤ most
                  · have HQ : Hid (((d0 + cy + (fun p => rv.getD p 0) nx : Nat) : Int) ≤ most) := Lib.hid (by rw [HRS.out]; exact hle)
                    have HINP := Lib.hid ((HIN.out.put (g := g0) (d := d0) (q := nx) (c1 := cy) (t := tw) (by have := HSB.out; omega) HQ.out).congr (fun g d s => (HDS.out g d s).symm))
                    go_wp2_with fail
                    go_quiet (fail)
                    go_wp2_with fail
                    have HF5 : Hid (Rw.Fm w gs gr sb K n most vs rv st N2 (U4.drewN nq).drew) := Lib.hid (HFA.out.bt (Nm.drewB (Nm.drewB (Below.refl _ _) nq) 1))
                    have HI5 : Hid (Rw.Iter (U4.drewN nq).drew (w.heap.size + 2 + i) r l (seen.push j)) := Lib.hid (HIA.out.keep rfl rfl)
                    have hnx := HSB.out
                    have hg0 := HB0.out
                    have v1 := HF5.out.t nx (by omega)
                    have v4 : (U4.drewN nq).drew.cell? ⟨U3.heap.size, 0, none⟩ = some (.int .i64 (nx : Int)) := y4
                    have v6 : (U4.drewN nq).drew.cell? ⟨U3.heap.size, 2, none⟩ = some (.string (Nm.bt tw)) := y6
                    have hcat : Nm.bt g0 ++ Nm.bt tw = Nm.bt (g0 ++ tw) := by
                      apply ByteArray.ext
                      apply Array.toList_inj.1
                      rw [Nm.bt_list]
                      simp [Nm.bt, ByteArray.toList_data_append]
                    have KL : Hid (Calls Tryz.prog 74 #[.map (some (w.heap.size + 2 + nx)), .string (Nm.bt g0 ++ Nm.bt tw), .int .i64 ((d0 : Int) + (cy : Int))] (U4.drewN nq).drew (Rw.KpPost (U4.drewN nq).drew (w.heap.size + 2 + nx) (N2 nx) (g0 ++ tw) (d0 + cy))) := Lib.hid (by
                      have h1 := Rw.keepLeast_any (w.heap.size + 2 + nx) (N2 nx) (g0 ++ tw) (d0 + cy) (U4.drewN nq).drew (HF5.out.maps nx (by omega)) (HBD.out.sh hn (by omega)) (HIN.out.nodup (by rw [HL.out]; omega)) (by simp only [List.length_append]; omega)
                      rw [← hcat, show ((d0 + cy : Nat) : Int) = (d0 : Int) + (cy : Int) from by omega] at h1
                      exact h1)
                    have HBN5 : Hid (Rw.Bd n (Rw.upd N2 nx (Rw.keep (N2 nx) (g0 ++ tw) (d0 + cy)))) := Lib.hid (HBD.out.keep (p := i) (q := nx) (by omega) (by omega) hg0.1 hg0.2 (by omega) (by omega))
                    have HLI5 : Hid (Rw.upd N2 nx (Rw.keep (N2 nx) (g0 ++ tw) (d0 + cy)) i = l) := Lib.hid (by unfold Rw.upd; rw [if_neg (by omega)]; exact HLI.out)
                    have HLE5 : Hid (∀ p, 1 ≤ p → p ≤ i → (Rw.upd N2 nx (Rw.keep (N2 nx) (g0 ++ tw) (d0 + cy)) p).length ≤ 1000) := Lib.hid (fun p h1 h2 => by
                      unfold Rw.upd
                      rw [if_neg (by omega)]
                      exact HLE.out p h1 h2)
                    have hs1 : (Nm.bt g0).size ≤ 36 := by rw [Rw.xbt_size]; omega
                    have hs2 : (Nm.bt tw).size ≤ 3 := by rw [Rw.xbt_size]; omega
                    have hs3 : ¬ 9223372036854775807 < (Nm.bt g0).size + (Nm.bt tw).size := by omega
                    have hs4 : ¬ maxLen < (Nm.bt g0).size + (Nm.bt tw).size := by unfold maxLen; omega
                    have HNX := Lib.hid hnx
                    clear hnx hg0 hcat HBD HLI HLE y1 y2 y5 y3 y4 y6
                    refine wp_region_still_tail 10 (by kernel_rfl) (by kernel_rfl) ?_
                    show wpStill Tryz.prog _ (U4.drewN nq).drew (fun a' => wpList Tryz.prog _ _ _ a' (U4.drewN nq).drew) _ _
                    generalize (U4.drewN nq).drew = V at *
                    simp only [List.take_succ_cons, List.take_zero, List.drop_succ_cons, List.drop_zero]
                    repeat still_step
                    refine wpStill_nil ?_
                    go_wp2_with fail
                    refine KL.out.mono ?_
                    rintro e w5 ⟨⟨v, rfl⟩, hT5, hg5, hs5⟩
                    have HF6 := Lib.hid (HF5.out.put (q := nx) (by have := HNX.out; omega) hT5 hg5)
                    have hb5 := HF5.out.big
                    have hr5 := (Array.getElem?_eq_some_iff.1 HI5.out.it).1
                    have HI6 := Lib.hid (HI5.out.keep (hg5.block _ (by omega) (by have := HNX.out; simp; omega)) (hg5.block _ hr5 (by have := HNX.out; simp; omega)))
                    clear hT5 hg5 hs5 hb5 hr5 v1 v4 v6 KL HF5 HI5
                    go_wp2
                    exact ⟨⟨k + 1, _, by omega, by go_num, HLI5, HF6, HI6, HINP, HBN5, HLE5⟩, by simp [intOf]; omega⟩
                  · have HQ : Hid (¬ ((d0 + cy + (fun p => rv.getD p 0) nx : Nat) : Int) ≤ most) := Lib.hid (by rw [HRS.out]; exact hle)
                    have HINS := Lib.hid ((HIN.out.skip (g := g0) (d := d0) (q := nx) (c1 := cy) (t := tw) HQ.out).congr (fun g d s => (HDS.out g d s).symm))
                    go_wp2_with fail
                    go_quiet (fail)
                    have HF5 := Lib.hid (HFA.out.bt (Nm.drewB (Below.refl _ _) nq))
                    have HI5 : Hid (Rw.Iter (U4.drewN nq) (w.heap.size + 2 + i) r l (seen.push j)) := Lib.hid (HIA.out.keep rfl rfl)
                    generalize U4.drewN nq = U5 at *
                    clear y1 y2 y5 y3 y4 y6
                    go_wp2
                    exact ⟨⟨k + 1, N2, by omega, by go_num, HLI, HF5, HI5, HINS, HBD, HLE⟩, by simp [intOf]; omega⟩
                · have hke : k = SL.length := by omega
                  subst hke
                  have hkli : ¬ (SL.length : Int) < (SL.length : Int) := by omega
                  have HIN3 : Hid (Rw.In RU L (fun p => rv.getD p 0) most N2 i (Rw.Dn l (seen.push j) SL)) := Lib.hid (HIN.out.congr (fun g d s => by
                    exact Rw.Dm.end_ l seen SL hj g0 d0 HLJ.out g d s))
                  go_wp2
                  exact ⟨⟨seen.push j, N2, HLI, HF, HI, HIN3, HBD, HLE⟩, by rw [HM.out, HI.out.left]; exact HM2.out⟩
        · obtain rfl : i = n := by omega
          have hini : ¬ (i : Int) < (i : Int) := by omega
          have hi0 : (0 : Int) ≤ (i : Int) := by omega
          have hi1 : (i : Int) < (i : Int) + 1 := by omega
          have t1 := HF.out.t i hi
          have z0 := HF.out.c0
          go_wp2
          refine bodyPost_ret (v := .tuple #[.map (some (w.heap.size + 2 + i)), .bool true]) (by simp [results, Tryz.f38, go_sem]) rfl ?_
          exact ⟨HF.out.below, .inl ⟨M, _, rfl, HSE.out, HBD.out, HLE.out i h1 (Nat.le_refl _), HF.out.maps i hi⟩⟩
end Go.Proofs.YtkddpealobeleaaGreatDoor
