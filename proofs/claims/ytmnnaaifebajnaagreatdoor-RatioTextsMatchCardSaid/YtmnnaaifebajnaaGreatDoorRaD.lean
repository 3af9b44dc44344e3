/- Package ratio: products that are not reduced yet. -/
import Derived.Test.YtmnnaaifebajnaaGreatDoorRaC
set_option linter.unusedSimpArgs false
set_option linter.unusedVariables false
namespace Go.Proofs.YtmnnaaifebajnaaGreatDoor
open Go.RowKit
open Ra (Fit)
set_option maxRecDepth 100000

set_option maxHeartbeats 4000000 in
theorem product_any (s t : Bool) (a c b d : Nat) (w : World) (hp : Pw w.heap.size w) (ha : a < L140) (hc : c < L140) (hb : b < L140) (hd : d < L140) :
    Calls Tryz.prog 53 #[rV (s, tx a, tx c), rV (t, tx b, tx d)] w fun e w' => e = .returned (.tuple #[rV (s != t, tx (a * b), tx (c * d)), .int .i64 0]) ∧ Below w.heap.size w w' := by
  have M1 := Lib.hid (fun v (h : Below w.heap.size w v) => mul_tx a b v (hp.bt h).1 ha hb)
  have M2 := Lib.hid (fun v (h : Below w.heap.size w v) => mul_tx c d v (hp.bt h).1 hc hd)
  clear hp ha hb hc hd
  generalize tx (a * b) = ab at *
  generalize tx (c * d) = cd at *
  generalize tx a = x at *
  generalize tx b = y at *
  generalize tx c = z at *
  generalize tx d = u at *
  unfold rV
  simp only
  have KE := Lib.hid (fun b v => keeping_any b v)
  have KP := Lib.hid (fun (x : ByteArray) (v : World) (hk : Kp v (w.heap.size + 1 + 1 + 1 + 1) (w.heap.size + 1 + 1 + 1)) => kept_any x _ _ v hk w.heap.size (by omega))
  have ST := Lib.hid (start5 w (s, x, z) (t, y, u) (false, ⟨#[]⟩, ⟨#[]⟩))
  go_enter Tryz.func53, Tryz.ntmps53
  go_wp2_with fail
  refine (KE.out _ _).mono ?_
  rintro e w5 ⟨rfl, hw5⟩
  obtain ⟨hb5, A5, D5, R5, K5⟩ := ST.out w5 hw5
  clear hw5 ST KE
  have S5 := Lib.hid (six A5 D5)
  have T5 := Lib.hid (six ((A5.bt (al w5 (.cells #[.bool false, .string ⟨#[]⟩, .string ⟨#[]⟩] 23))).bt (Bd _)) ((D5.bt (al w5 (.cells #[.bool false, .string ⟨#[]⟩, .string ⟨#[]⟩] 23))).bt (Bd _)))
  go_wp2_with fail
  go_region_held3 (fun w' => w'.cell? ⟨w.heap.size, 0, none⟩ = some (.bool s) ∧ w'.cell? ⟨w.heap.size, 1, none⟩ = some (.string x) ∧ w'.cell? ⟨w.heap.size, 2, none⟩ = some (.string z) ∧ w'.cell? ⟨w.heap.size + 1, 0, none⟩ = some (.bool t) ∧ w'.cell? ⟨w.heap.size + 1, 1, none⟩ = some (.string y) ∧ w'.cell? ⟨w.heap.size + 1, 2, none⟩ = some (.string u)) (first | exact SS.out | exact T9.out | exact S9.out | exact T8.out | exact S8.out | exact T7.out | exact S7.out | exact T6.out | exact S6.out | exact T5.out | exact S5.out | go_keep)
    (first
      | (go_at_call 66
         (with_reducible refine (M1.out _ (Nb hb5 (Bd w5))).mono ?_)
         rintro e w6 ⟨rfl, g6⟩
         have hb6 := Nb (Nb hb5 (Bd w5)) g6
         have A6 := (A5.bt (Bd w5)).bt g6
         have D6 := (D5.bt (Bd w5)).bt g6
         have R6 := (R5.bt (Bd w5)).bt g6
         have K6 := (K5.bt (Bd w5)).bt g6
         have S6 := Lib.hid (six A6 D6)
         have T6 := Lib.hid (six (A6.bt (al w6 (.cells #[.bool false, .string ⟨#[]⟩, .string ⟨#[]⟩] 23))) (D6.bt (al w6 (.cells #[.bool false, .string ⟨#[]⟩, .string ⟨#[]⟩] 23)))))
      | (go_at_call 66
         (with_reducible refine (M1.out _ (Nb hb5 (Nb (al w5 (.cells #[.bool false, .string ⟨#[]⟩, .string ⟨#[]⟩] 23)) (Bd _)))).mono ?_)
         rintro e w6 ⟨rfl, g6⟩
         have hb6 := Nb (Nb hb5 (Nb (al w5 (.cells #[.bool false, .string ⟨#[]⟩, .string ⟨#[]⟩] 23)) (Bd _))) g6
         have A6 := (A5.bt (Nb (al w5 (.cells #[.bool false, .string ⟨#[]⟩, .string ⟨#[]⟩] 23)) (Bd _))).bt g6
         have D6 := (D5.bt (Nb (al w5 (.cells #[.bool false, .string ⟨#[]⟩, .string ⟨#[]⟩] 23)) (Bd _))).bt g6
         have R6 := (R5.bt (Nb (al w5 (.cells #[.bool false, .string ⟨#[]⟩, .string ⟨#[]⟩] 23)) (Bd _))).bt g6
         have K6 := (K5.bt (Nb (al w5 (.cells #[.bool false, .string ⟨#[]⟩, .string ⟨#[]⟩] 23)) (Bd _))).bt g6
         have BX6 := (At.new w5 false ⟨#[]⟩ ⟨#[]⟩).bt (Nb (Bd _) g6)
         have N6 := K5.lt
         obtain ⟨b0, b1, b2, e0, e1, e2⟩ := BX6.cells
         have S6 := Lib.hid (six A6 D6))
      | (go_at_call 91
         (with_reducible refine (KP.out ab _ K6).mono ?_)
         rintro e w7 ⟨rfl, K7, g7, k7⟩
         have hb7 := Below.trans hb6 g7
         have A7 := A6.keeps k7 (by omega)
         have D7 := D6.keeps k7 (by omega)
         have R7 := R6.keeps k7 (by omega)
         have BX7 := BX6.keeps k7 (by have := N6; omega)
         have N7 := N6
         obtain ⟨b0, b1, b2, e0, e1, e2⟩ := BX7.cells
         have S7 := Lib.hid (six A7 D7))
      | (go_at_call 91
         (with_reducible refine (KP.out ab _ K6).mono ?_)
         rintro e w7 ⟨rfl, K7, g7, k7⟩
         have hb7 := Below.trans hb6 g7
         have A7 := A6.keeps k7 (by omega)
         have D7 := D6.keeps k7 (by omega)
         have R7 := R6.keeps k7 (by omega)
         have S7 := Lib.hid (six A7 D7)
         have T7 := Lib.hid (six (A7.bt (al w7 (.cells #[.bool false, .string ⟨#[]⟩, .string ⟨#[]⟩] 23))) (D7.bt (al w7 (.cells #[.bool false, .string ⟨#[]⟩, .string ⟨#[]⟩] 23)))))
      | (go_at_call 91
         (with_reducible refine (KP.out ab _ (K6.bt (al w6 (.cells #[.bool false, .string ⟨#[]⟩, .string ⟨#[]⟩] 23)))).mono ?_)
         rintro e w7 ⟨rfl, K7, g7, k7⟩
         have hb7 := Below.trans (Nb hb6 (al w6 (.cells #[.bool false, .string ⟨#[]⟩, .string ⟨#[]⟩] 23))) g7
         have A7 := (A6.bt (al w6 (.cells #[.bool false, .string ⟨#[]⟩, .string ⟨#[]⟩] 23))).keeps k7 (by omega)
         have D7 := (D6.bt (al w6 (.cells #[.bool false, .string ⟨#[]⟩, .string ⟨#[]⟩] 23))).keeps k7 (by omega)
         have R7 := (R6.bt (al w6 (.cells #[.bool false, .string ⟨#[]⟩, .string ⟨#[]⟩] 23))).keeps k7 (by omega)
         have BX7 := (At.new w6 false ⟨#[]⟩ ⟨#[]⟩).keeps k7 (by have := K6.lt; omega)
         have N7 := K6.lt
         obtain ⟨b0, b1, b2, e0, e1, e2⟩ := BX7.cells
         have S7 := Lib.hid (six A7 D7))
      | (go_at_call 66
         (with_reducible refine (M2.out _ hb7).mono ?_)
         rintro e w8 ⟨rfl, g8⟩
         have hb8 := Nb hb7 g8
         have A8 := A7.bt g8
         have D8 := D7.bt g8
         have R8 := R7.bt g8
         have K8 := K7.bt g8
         have BX8 := BX7.bt g8
         have N8 := N7
         obtain ⟨b0, b1, b2, e0, e1, e2⟩ := BX8.cells
         have S8 := Lib.hid (six A8 D8))
      | (go_at_call 66
         (with_reducible refine (M2.out _ hb7).mono ?_)
         rintro e w8 ⟨rfl, g8⟩
         have hb8 := Nb hb7 g8
         have A8 := A7.bt g8
         have D8 := D7.bt g8
         have R8 := R7.bt g8
         have K8 := K7.bt g8
         have S8 := Lib.hid (six A8 D8)
         have T8 := Lib.hid (six (A8.bt (al w8 (.cells #[.bool false, .string ⟨#[]⟩, .string ⟨#[]⟩] 23))) (D8.bt (al w8 (.cells #[.bool false, .string ⟨#[]⟩, .string ⟨#[]⟩] 23)))))
      | (go_at_call 66
         (with_reducible refine (M2.out _ (Nb hb7 (al w7 (.cells #[.bool false, .string ⟨#[]⟩, .string ⟨#[]⟩] 23)))).mono ?_)
         rintro e w8 ⟨rfl, g8⟩
         have hb8 := Nb (Nb hb7 (al w7 (.cells #[.bool false, .string ⟨#[]⟩, .string ⟨#[]⟩] 23))) g8
         have A8 := (A7.bt (al w7 (.cells #[.bool false, .string ⟨#[]⟩, .string ⟨#[]⟩] 23))).bt g8
         have D8 := (D7.bt (al w7 (.cells #[.bool false, .string ⟨#[]⟩, .string ⟨#[]⟩] 23))).bt g8
         have R8 := (R7.bt (al w7 (.cells #[.bool false, .string ⟨#[]⟩, .string ⟨#[]⟩] 23))).bt g8
         have K8 := (K7.bt (al w7 (.cells #[.bool false, .string ⟨#[]⟩, .string ⟨#[]⟩] 23))).bt g8
         have BX8 := (At.new w7 false ⟨#[]⟩ ⟨#[]⟩).bt g8
         have N8 := K7.lt
         obtain ⟨b0, b1, b2, e0, e1, e2⟩ := BX8.cells
         have S8 := Lib.hid (six A8 D8))
      | (go_at_call 91
         (with_reducible refine (KP.out cd _ K8).mono ?_)
         rintro e w9 ⟨rfl, K9, g9, k9⟩
         have hb9 := Below.trans hb8 g9
         have A9 := A8.keeps k9 (by omega)
         have D9 := D8.keeps k9 (by omega)
         have R9 := R8.keeps k9 (by omega)
         have BX9 := BX8.keeps k9 (by have := N8; omega)
         have N9 := N8
         obtain ⟨b0, b1, b2, e0, e1, e2⟩ := BX9.cells
         have S9 := Lib.hid (six A9 D9)
         have SS := Lib.hid (farsix A9 D9 BX9 N9 (!(s == t), ab, cd)))
      | (go_at_call 91
         (with_reducible refine (KP.out cd _ K8).mono ?_)
         rintro e w9 ⟨rfl, K9, g9, k9⟩
         have hb9 := Below.trans hb8 g9
         have A9 := A8.keeps k9 (by omega)
         have D9 := D8.keeps k9 (by omega)
         have R9 := R8.keeps k9 (by omega)
         have S9 := Lib.hid (six A9 D9)
         have T9 := Lib.hid (six (A9.bt (al w9 (.cells #[.bool false, .string ⟨#[]⟩, .string ⟨#[]⟩] 23))) (D9.bt (al w9 (.cells #[.bool false, .string ⟨#[]⟩, .string ⟨#[]⟩] 23))))
         have SS := Lib.hid (six (A9.bt (al w9 (ob (!(s == t), ab, cd)))) (D9.bt (al w9 (ob (!(s == t), ab, cd)))))
         unfold ob at SS)
      | (go_at_call 91
         (with_reducible refine (KP.out cd _ (K8.bt (al w8 (.cells #[.bool false, .string ⟨#[]⟩, .string ⟨#[]⟩] 23)))).mono ?_)
         rintro e w9 ⟨rfl, K9, g9, k9⟩
         have hb9 := Below.trans (Nb hb8 (al w8 (.cells #[.bool false, .string ⟨#[]⟩, .string ⟨#[]⟩] 23))) g9
         have A9 := (A8.bt (al w8 (.cells #[.bool false, .string ⟨#[]⟩, .string ⟨#[]⟩] 23))).keeps k9 (by omega)
         have D9 := (D8.bt (al w8 (.cells #[.bool false, .string ⟨#[]⟩, .string ⟨#[]⟩] 23))).keeps k9 (by omega)
         have R9 := (R8.bt (al w8 (.cells #[.bool false, .string ⟨#[]⟩, .string ⟨#[]⟩] 23))).keeps k9 (by omega)
         have BX9 := (At.new w8 false ⟨#[]⟩ ⟨#[]⟩).keeps k9 (by have := K8.lt; omega)
         have N9 := K8.lt
         obtain ⟨b0, b1, b2, e0, e1, e2⟩ := BX9.cells
         have S9 := Lib.hid (six A9 D9)
         have SS := Lib.hid (farsix A9 D9 BX9 N9 (!(s == t), ab, cd)))
      | fail)
  all_goals
    first
      | (have FF := fin_new hb9 rfl R9 K9 (!(s == t), ab, cd)
         refine gen (P := Exit.then _ _ _ _) _ ?_
         intro W hW
         have F2 := FF W hW
         obtain ⟨hbF, RF, KF, XF⟩ := F2
         have hne : w.heap.size + 1 + 1 ≠ w9.heap.size := by have := K9.lt; omega
         have hn1 : w.heap.size + 1 + 1 ≠ w.heap.size + 1 + 1 + 1 := by omega
         clear A9 D9 R9 K9 hW FF
         obtain ⟨r0, r1, r2, r3, r4, r5⟩ := (RF.bt (Bd W)).cells
         obtain ⟨x0, x1, x2, _, _, _⟩ := (XF.bt (Bd W)).cells
         obtain ⟨_, y1, _⟩ := (KF.bt (Bd W)).cells
         obtain ⟨q0, q1, q2, q3, q4, q5⟩ := RF.cells
         obtain ⟨z0, z1, z2, _, _, _⟩ := XF.cells
         obtain ⟨_, t1, _⟩ := KF.cells
         go_wp2_with fail
         go_region
         go_wp2_with fail
         exact bodyPost_ret (out2 Tryz.results53 _ _ _ _ _ rfl rfl (show At _ _ _ from RF.set _ _ _)) rfl ⟨rfl, show Below _ _ _ from (Bset2 hbF (by omega) _ _ _).drew⟩)
      | (have FF := fin_old hb9 rfl R9 K9 (b := w8.heap.size) BX9 N9 rfl rfl (!(s == t), ab, cd)
         refine gen (P := Exit.then _ _ _ _) _ ?_
         intro W hW
         have F2 := FF W hW
         obtain ⟨hbF, RF, KF, XF⟩ := F2
         have hne : w.heap.size + 1 + 1 ≠ w8.heap.size := by have := K9.lt; have := N9; omega
         have hn1 : w.heap.size + 1 + 1 ≠ w.heap.size + 1 + 1 + 1 := by omega
         clear A9 D9 R9 K9 hW FF
         obtain ⟨r0, r1, r2, r3, r4, r5⟩ := (RF.bt (Bd W)).cells
         obtain ⟨x0, x1, x2, _, _, _⟩ := (XF.bt (Bd W)).cells
         obtain ⟨_, y1, _⟩ := (KF.bt (Bd W)).cells
         obtain ⟨q0, q1, q2, q3, q4, q5⟩ := RF.cells
         obtain ⟨z0, z1, z2, _, _, _⟩ := XF.cells
         obtain ⟨_, t1, _⟩ := KF.cells
         go_wp2_with fail
         go_region
         go_wp2_with fail
         exact bodyPost_ret (out2 Tryz.results53 _ _ _ _ _ rfl rfl (show At _ _ _ from RF.set _ _ _)) rfl ⟨rfl, show Below _ _ _ from (Bset2 hbF (by omega) _ _ _).drew⟩)
      | (have FF := fin_old hb9 rfl R9 K9 (b := w7.heap.size) BX9 N9 rfl rfl (!(s == t), ab, cd)
         refine gen (P := Exit.then _ _ _ _) _ ?_
         intro W hW
         have F2 := FF W hW
         obtain ⟨hbF, RF, KF, XF⟩ := F2
         have hne : w.heap.size + 1 + 1 ≠ w7.heap.size := by have := K9.lt; have := N9; omega
         have hn1 : w.heap.size + 1 + 1 ≠ w.heap.size + 1 + 1 + 1 := by omega
         clear A9 D9 R9 K9 hW FF
         obtain ⟨r0, r1, r2, r3, r4, r5⟩ := (RF.bt (Bd W)).cells
         obtain ⟨x0, x1, x2, _, _, _⟩ := (XF.bt (Bd W)).cells
         obtain ⟨_, y1, _⟩ := (KF.bt (Bd W)).cells
         obtain ⟨q0, q1, q2, q3, q4, q5⟩ := RF.cells
         obtain ⟨z0, z1, z2, _, _, _⟩ := XF.cells
         obtain ⟨_, t1, _⟩ := KF.cells
         go_wp2_with fail
         go_region
         go_wp2_with fail
         exact bodyPost_ret (out2 Tryz.results53 _ _ _ _ _ rfl rfl (show At _ _ _ from RF.set _ _ _)) rfl ⟨rfl, show Below _ _ _ from (Bset2 hbF (by omega) _ _ _).drew⟩)
      | (have FF := fin_old hb9 rfl R9 K9 (b := w6.heap.size) BX9 N9 rfl rfl (!(s == t), ab, cd)
         refine gen (P := Exit.then _ _ _ _) _ ?_
         intro W hW
         have F2 := FF W hW
         obtain ⟨hbF, RF, KF, XF⟩ := F2
         have hne : w.heap.size + 1 + 1 ≠ w6.heap.size := by have := K9.lt; have := N9; omega
         have hn1 : w.heap.size + 1 + 1 ≠ w.heap.size + 1 + 1 + 1 := by omega
         clear A9 D9 R9 K9 hW FF
         obtain ⟨r0, r1, r2, r3, r4, r5⟩ := (RF.bt (Bd W)).cells
         obtain ⟨x0, x1, x2, _, _, _⟩ := (XF.bt (Bd W)).cells
         obtain ⟨_, y1, _⟩ := (KF.bt (Bd W)).cells
         obtain ⟨q0, q1, q2, q3, q4, q5⟩ := RF.cells
         obtain ⟨z0, z1, z2, _, _, _⟩ := XF.cells
         obtain ⟨_, t1, _⟩ := KF.cells
         go_wp2_with fail
         go_region
         go_wp2_with fail
         exact bodyPost_ret (out2 Tryz.results53 _ _ _ _ _ rfl rfl (show At _ _ _ from RF.set _ _ _)) rfl ⟨rfl, show Below _ _ _ from (Bset2 hbF (by omega) _ _ _).drew⟩)
      | (have FF := fin_old hb9 rfl R9 K9 (b := w5.heap.size) BX9 N9 rfl rfl (!(s == t), ab, cd)
         refine gen (P := Exit.then _ _ _ _) _ ?_
         intro W hW
         have F2 := FF W hW
         obtain ⟨hbF, RF, KF, XF⟩ := F2
         have hne : w.heap.size + 1 + 1 ≠ w5.heap.size := by have := K9.lt; have := N9; omega
         have hn1 : w.heap.size + 1 + 1 ≠ w.heap.size + 1 + 1 + 1 := by omega
         clear A9 D9 R9 K9 hW FF
         obtain ⟨r0, r1, r2, r3, r4, r5⟩ := (RF.bt (Bd W)).cells
         obtain ⟨x0, x1, x2, _, _, _⟩ := (XF.bt (Bd W)).cells
         obtain ⟨_, y1, _⟩ := (KF.bt (Bd W)).cells
         obtain ⟨q0, q1, q2, q3, q4, q5⟩ := RF.cells
         obtain ⟨z0, z1, z2, _, _, _⟩ := XF.cells
         obtain ⟨_, t1, _⟩ := KF.cells
         go_wp2_with fail
         go_region
         go_wp2_with fail
         exact bodyPost_ret (out2 Tryz.results53 _ _ _ _ _ rfl rfl (show At _ _ _ from RF.set _ _ _)) rfl ⟨rfl, show Below _ _ _ from (Bset2 hbF (by omega) _ _ _).drew⟩)
end Go.Proofs.YtmnnaaifebajnaaGreatDoor

