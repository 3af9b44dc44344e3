/- P3.3: the walk of SealChanges. -/
import Derived.Test.YtdlmbpoihnifiaaDoorSeW
import Derived.Test.YtdlmbpoihnifiaaDoorChgA
import Derived.Test.YtdlmbpoihnifiaaDoorSound3W
import Derived.Deep.DeepCutAuto
namespace Go.Proofs.YtdlmbpoihnifiaaDoor
open Go.RowKit
set_option maxRecDepth 100000
set_option linter.unusedSimpArgs false
set_option linter.unusedVariables false
attribute [-go_sem] Builtin.append_

set_option maxHeartbeats 4000000 in
theorem chg_try (s : ByteArray) (a b t : Nat) (m x : ByteArray) (W : World) (hp : Pow W.heap.size W) (ha : a ≤ 255) (hb : b ≤ 255) (ht : t ≤ 255) (hn : shortL [s, m, x] = true) :
    Calls Tryd.prog 7 #[.string s, .int .u8 (a : Int), .int .u8 (b : Int), .string m, .int .u8 (t : Int), .string x] W fun e w' => e = .returned (.bool true) ∧ Below W.heap.size W w' := by
  have HP := Lib.hid hp
  clear hp
  have E1 := fun h (hh : a % 3 = h) => Lib.hid (show (a : Int) % 3 = (h : Int) by omega)
  have h2 : a % 3 ≤ 2 := by omega
  have E1 := E1 _ rfl
  have WP := Lib.hid (wrap_pow (a % 3) (by omega))
  have hq : 0 < 2 ^ (a % 3) := Nat.pow_pos (by omega)
  have z1 := short_all hn s (by simp)
  have z2 := short_all hn m (by simp)
  have z3 := short_all hn x (by simp)
  have z2' : m.size ≤ maxLen := by unfold maxLen; omega
  have hip : b % 2 ^ (a % 3) < 2 ^ (a % 3) := Nat.mod_lt _ hq
  have E2 := Lib.hid (show (b : Int) % ((2 ^ (a % 3) : Nat) : Int) = ((b % 2 ^ (a % 3) : Nat) : Int) by rw [Int.natCast_emod])
  generalize a % 3 = h at *
  generalize b % 2 ^ h = i at *
  have h4 : 2 ^ h ≤ 4 := Nat.pow_le_pow_right (n := 2) (by omega) h2
  have hi4 : (i : Int) ≤ 9223372036854775807 := by omega
  have SH := Lib.hid (fun w' => short_lit w' [s, m, x] true hn (by simp))
  have PK := Lib.hid (fun (w' : World) (hb : Below W.heap.size W w') => Public_ok s h w' (by omega) (by omega) (HP.out.bt hb))
  have SG := Lib.hid (fun (w' : World) (hb : Below W.heap.size W w') => sign_own s m h i w' (by omega) z2' (by omega) hip (HP.out.bt hb))
  have HSL := Lib.hid (Se.sig_length s i m)
  have HPL := Lib.hid (path_len s h i hip)
  have KEY := Lib.hid (fun (j : Nat) (l1 l2 : List ByteArray) (hj : j < 2 ^ h) (hc : j = i ∨ l1 = Se.sig s i m) => chg_key (l2 := l2) hip hj hc)
  have HZ1 := Lib.hid (sig_le s i m)
  have HZ2 := Lib.hid (digs_le (path_digs s h i))
  have HZX := Lib.hid (show x.size ≤ 1000 by omega)
  have Z2 := Lib.hid z2'
  have Z3 := Lib.hid z2
  have HIP := Lib.hid hip
  have H4 := Lib.hid h4
  have L1 := Lib.hid (made_len s h 15 (by omega) (by omega))
  have TM := Lib.hid (made_le s h 15 (by omega) (by omega))
  have M1 := Lib.hid (fun (w' : World) => show Calls Tryd.prog 23 #[.string s, .int .i64 (h : Int), .int .i64 15] w' (Gives (Se.made s h 15) w') from made_any s h 15 w' (by omega) (by omega) (by omega) (by omega))
  clear hn z2' z1 z2 z3 hip h4
  have WN := Lib.hid (show IntKind.i64.wrap ((19 : Int) + (h : Int)) = ((19 + h : Nat) : Int) by rw [IntKind.wrap_i64]; omega)
  have hk1 : t % (19 + h) < 19 + h := Nat.mod_lt _ (by omega)
  have EK := Lib.hid (show (t : Int) % ((19 + h : Nat) : Int) = ((t % (19 + h) : Nat) : Int) by rw [Int.natCast_emod])
  have n1 : (((19 + h : Nat) : Int) == 0) = false := by rw [beq_eq_false_iff_ne]; omega
  have n2 : ((19 + h : Nat) : Int) ≠ 0 := by omega
  generalize t % (19 + h) = k at *
  generalize hnn' : 19 + h = n at WN EK n1 n2 hk1
  replace hnn' := Lib.hid hnn'
  generalize 2 ^ h = p at *
  have q1 : ((p : Int) == 0) = false := by rw [beq_eq_false_iff_ne]; omega
  have q2 : (p : Int) ≠ 0 := by omega
  generalize Se.made s h 15 = x1 at *
  generalize Se.sig s i m = sg at *
  generalize Tr.path (Se.keys s h) i = pt at *
  generalize pub s h = pb at *
  go_enter Tryd.func7, Tryd.ntmps7
  go_wp2_with fail
  refine (head_any W HP.out).mono ?_
  rintro e w1 ⟨rfl, hb1⟩
  have E1' := E1.out
  have WP' := WP.out
  have E2' := E2.out
  go_wp2_with fail
  clear E1' WP' E2'
  rw [E1.out, E2.out]
  refine (SH.out w1).mono ?_
  rintro e w2 ⟨rfl, hb2⟩
  have hb2' := Bt hb1 hb2
  go_wp2_with fail
  refine (PK.out w2 hb2').mono ?_
  rintro e w3 ⟨rfl, hb3⟩
  have hb3' := Bt hb2' hb3
  go_wp2_with fail
  refine (SG.out w3 hb3').mono ?_
  rintro e w4 ⟨A1, A2, c1, c2, rfl, ho1, ho2, hs1, hs2, l1, m1, l2, m2, hb4⟩
  have x4 := Boxed3.new w4 (.int .i64 (i : Int)) (.slice A1 18 c1) (.slice A2 h c2)
  have ha4 := (Below.refl w4.heap.size w4).alloc (Nat.le_refl _) (.cells #[.int .i64 (i : Int), .slice A1 18 c1, .slice A2 h c2] 24)
  have HB4 := Lib.hid (Bt (Bt hb3' hb4) ha4)
  have HS1 := Lib.hid (hs1.bt ha4)
  have HS2 := Lib.hid (hs2.bt ha4)
  obtain ⟨k0, k1, k2, _, _, _⟩ := x4.cells
  have HO1 := Lib.hid (own_below ho1 ha4)
  have HO2 := Lib.hid (own_below ho2 ha4)
  have X4 := Lib.hid x4
  clear hs1 hs2 ho1 ho2 x4
  go_upto_region 10 with fail
  generalize w4.alloc _ = wS at *
  generalize w4.heap.size = bs at *
  go_cut [20] (fun s20 wx => ∃ g A5 c5 A6 c6, s20 = .pointer (some ⟨g, 0, none⟩) ∧ Bad wS wx g (i : Int) (.slice A5 18 c5) sg (.slice A6 h c6) pt)
  case first =>
    have HT0 := Lib.hid (Tri.start wS)
    have HTZ := Lib.hid (HT0.out.newU (wS.heap.size) (by first | rfl | (simp only [World.size_alloc])))
    obtain ⟨aZA, cZA, wZA, hrZA, tZA⟩ := HTZ.out.drew.addU HO1.out HSL.out (by omega)
    have HTZA := Lib.hid tZA
    clear tZA
    have HTZAY := Lib.hid (HTZA.out.newV (wZA.heap.size) (by first | rfl | (simp only [World.size_alloc])))
    obtain ⟨aZAYB, cZAYB, wZAYB, hrZAYB, tZAYB⟩ := HTZAY.out.addV HO2.out HPL.out (by omega)
    have HTZAYB := Lib.hid tZAYB
    clear tZAYB
    have HTZAYBL := Lib.hid (HTZAYB.out.newL (wZAYB.heap.size) (by first | rfl | (simp only [World.size_alloc])))
    have HTZAYL := Lib.hid (HTZAY.out.newL (wZA.heap.size + 1) (by first | rfl | (simp only [World.size_alloc])))
    obtain ⟨aZAYLB, cZAYLB, wZAYLB, hrZAYLB, tZAYLB⟩ := HTZAYL.out.addV HO2.out HPL.out (by omega)
    have HTZAYLB := Lib.hid tZAYLB
    clear tZAYLB
    obtain ⟨fZAYLB0, fZAYLB1, fZAYLB2, fZAYLB3, fZAYLB4, fZAYLB5⟩ := (HTZAYLB.out.box _ rfl).2.1.cells
    have HTZAL := Lib.hid (HTZA.out.newL (wZA.heap.size) (by first | rfl | (simp only [World.size_alloc])))
    have HTZALY := Lib.hid (HTZAL.out.newV (wZA.heap.size + 1) (by first | rfl | (simp only [World.size_alloc])))
    obtain ⟨aZALYB, cZALYB, wZALYB, hrZALYB, tZALYB⟩ := HTZALY.out.addV HO2.out HPL.out (by omega)
    have HTZALYB := Lib.hid tZALYB
    clear tZALYB
    obtain ⟨fZALYB0, fZALYB1, fZALYB2, fZALYB3, fZALYB4, fZALYB5⟩ := (HTZALYB.out.box _ rfl).2.1.cells
    have HTZY := Lib.hid (HTZ.out.newV (wS.heap.size + 1) (by first | rfl | (simp only [World.size_alloc])))
    obtain ⟨aZYA, cZYA, wZYA, hrZYA, tZYA⟩ := HTZY.out.drew.addU HO1.out HSL.out (by omega)
    have HTZYA := Lib.hid tZYA
    clear tZYA
    obtain ⟨aZYAB, cZYAB, wZYAB, hrZYAB, tZYAB⟩ := HTZYA.out.addV HO2.out HPL.out (by omega)
    have HTZYAB := Lib.hid tZYAB
    clear tZYAB
    have HTZYABL := Lib.hid (HTZYAB.out.newL (wZYAB.heap.size) (by first | rfl | (simp only [World.size_alloc])))
    have HTZYAL := Lib.hid (HTZYA.out.newL (wZYA.heap.size) (by first | rfl | (simp only [World.size_alloc])))
    obtain ⟨aZYALB, cZYALB, wZYALB, hrZYALB, tZYALB⟩ := HTZYAL.out.addV HO2.out HPL.out (by omega)
    have HTZYALB := Lib.hid tZYALB
    clear tZYALB
    obtain ⟨fZYALB0, fZYALB1, fZYALB2, fZYALB3, fZYALB4, fZYALB5⟩ := (HTZYALB.out.box _ rfl).2.1.cells
    have HTZYL := Lib.hid (HTZY.out.newL (wS.heap.size + 2) (by first | rfl | (simp only [World.size_alloc])))
    obtain ⟨aZYLA, cZYLA, wZYLA, hrZYLA, tZYLA⟩ := HTZYL.out.drew.addU HO1.out HSL.out (by omega)
    have HTZYLA := Lib.hid tZYLA
    clear tZYLA
    obtain ⟨aZYLAB, cZYLAB, wZYLAB, hrZYLAB, tZYLAB⟩ := HTZYLA.out.addV HO2.out HPL.out (by omega)
    have HTZYLAB := Lib.hid tZYLAB
    clear tZYLAB
    obtain ⟨fZYLAB0, fZYLAB1, fZYLAB2, fZYLAB3, fZYLAB4, fZYLAB5⟩ := (HTZYLAB.out.box _ rfl).2.1.cells
    have HTZL := Lib.hid (HTZ.out.newL (wS.heap.size + 1) (by first | rfl | (simp only [World.size_alloc])))
    obtain ⟨aZLA, cZLA, wZLA, hrZLA, tZLA⟩ := HTZL.out.drew.addU HO1.out HSL.out (by omega)
    have HTZLA := Lib.hid tZLA
    clear tZLA
    have HTZLAY := Lib.hid (HTZLA.out.newV (wZLA.heap.size) (by first | rfl | (simp only [World.size_alloc])))
    obtain ⟨aZLAYB, cZLAYB, wZLAYB, hrZLAYB, tZLAYB⟩ := HTZLAY.out.addV HO2.out HPL.out (by omega)
    have HTZLAYB := Lib.hid tZLAYB
    clear tZLAYB
    obtain ⟨fZLAYB0, fZLAYB1, fZLAYB2, fZLAYB3, fZLAYB4, fZLAYB5⟩ := (HTZLAYB.out.box _ rfl).2.1.cells
    have HTZLY := Lib.hid (HTZL.out.newV (wS.heap.size + 2) (by first | rfl | (simp only [World.size_alloc])))
    obtain ⟨aZLYA, cZLYA, wZLYA, hrZLYA, tZLYA⟩ := HTZLY.out.drew.addU HO1.out HSL.out (by omega)
    have HTZLYA := Lib.hid tZLYA
    clear tZLYA
    obtain ⟨aZLYAB, cZLYAB, wZLYAB, hrZLYAB, tZLYAB⟩ := HTZLYA.out.addV HO2.out HPL.out (by omega)
    have HTZLYAB := Lib.hid tZLYAB
    clear tZLYAB
    obtain ⟨fZLYAB0, fZLYAB1, fZLYAB2, fZLYAB3, fZLYAB4, fZLYAB5⟩ := (HTZLYAB.out.box _ rfl).2.1.cells
    have HTY := Lib.hid (HT0.out.newV (wS.heap.size) (by first | rfl | (simp only [World.size_alloc])))
    have HTYZ := Lib.hid (HTY.out.newU (wS.heap.size + 1) (by first | rfl | (simp only [World.size_alloc])))
    obtain ⟨aYZA, cYZA, wYZA, hrYZA, tYZA⟩ := HTYZ.out.drew.addU HO1.out HSL.out (by omega)
    have HTYZA := Lib.hid tYZA
    clear tYZA
    obtain ⟨aYZAB, cYZAB, wYZAB, hrYZAB, tYZAB⟩ := HTYZA.out.addV HO2.out HPL.out (by omega)
    have HTYZAB := Lib.hid tYZAB
    clear tYZAB
    have HTYZABL := Lib.hid (HTYZAB.out.newL (wYZAB.heap.size) (by first | rfl | (simp only [World.size_alloc])))
    have HTYZAL := Lib.hid (HTYZA.out.newL (wYZA.heap.size) (by first | rfl | (simp only [World.size_alloc])))
    obtain ⟨aYZALB, cYZALB, wYZALB, hrYZALB, tYZALB⟩ := HTYZAL.out.addV HO2.out HPL.out (by omega)
    have HTYZALB := Lib.hid tYZALB
    clear tYZALB
    obtain ⟨fYZALB0, fYZALB1, fYZALB2, fYZALB3, fYZALB4, fYZALB5⟩ := (HTYZALB.out.box _ rfl).2.1.cells
    have HTYZL := Lib.hid (HTYZ.out.newL (wS.heap.size + 2) (by first | rfl | (simp only [World.size_alloc])))
    obtain ⟨aYZLA, cYZLA, wYZLA, hrYZLA, tYZLA⟩ := HTYZL.out.drew.addU HO1.out HSL.out (by omega)
    have HTYZLA := Lib.hid tYZLA
    clear tYZLA
    obtain ⟨aYZLAB, cYZLAB, wYZLAB, hrYZLAB, tYZLAB⟩ := HTYZLA.out.addV HO2.out HPL.out (by omega)
    have HTYZLAB := Lib.hid tYZLAB
    clear tYZLAB
    obtain ⟨fYZLAB0, fYZLAB1, fYZLAB2, fYZLAB3, fYZLAB4, fYZLAB5⟩ := (HTYZLAB.out.box _ rfl).2.1.cells
    have HTYL := Lib.hid (HTY.out.newL (wS.heap.size + 1) (by first | rfl | (simp only [World.size_alloc])))
    have HTYLZ := Lib.hid (HTYL.out.newU (wS.heap.size + 2) (by first | rfl | (simp only [World.size_alloc])))
    obtain ⟨aYLZA, cYLZA, wYLZA, hrYLZA, tYLZA⟩ := HTYLZ.out.drew.addU HO1.out HSL.out (by omega)
    have HTYLZA := Lib.hid tYLZA
    clear tYLZA
    obtain ⟨aYLZAB, cYLZAB, wYLZAB, hrYLZAB, tYLZAB⟩ := HTYLZA.out.addV HO2.out HPL.out (by omega)
    have HTYLZAB := Lib.hid tYLZAB
    clear tYLZAB
    obtain ⟨fYLZAB0, fYLZAB1, fYLZAB2, fYLZAB3, fYLZAB4, fYLZAB5⟩ := (HTYLZAB.out.box _ rfl).2.1.cells
    have HTL := Lib.hid (HT0.out.newL (wS.heap.size) (by first | rfl | (simp only [World.size_alloc])))
    have HTLZ := Lib.hid (HTL.out.newU (wS.heap.size + 1) (by first | rfl | (simp only [World.size_alloc])))
    obtain ⟨aLZA, cLZA, wLZA, hrLZA, tLZA⟩ := HTLZ.out.drew.addU HO1.out HSL.out (by omega)
    have HTLZA := Lib.hid tLZA
    clear tLZA
    have HTLZAY := Lib.hid (HTLZA.out.newV (wLZA.heap.size) (by first | rfl | (simp only [World.size_alloc])))
    obtain ⟨aLZAYB, cLZAYB, wLZAYB, hrLZAYB, tLZAYB⟩ := HTLZAY.out.addV HO2.out HPL.out (by omega)
    have HTLZAYB := Lib.hid tLZAYB
    clear tLZAYB
    obtain ⟨fLZAYB0, fLZAYB1, fLZAYB2, fLZAYB3, fLZAYB4, fLZAYB5⟩ := (HTLZAYB.out.box _ rfl).2.1.cells
    have HTLZY := Lib.hid (HTLZ.out.newV (wS.heap.size + 2) (by first | rfl | (simp only [World.size_alloc])))
    obtain ⟨aLZYA, cLZYA, wLZYA, hrLZYA, tLZYA⟩ := HTLZY.out.drew.addU HO1.out HSL.out (by omega)
    have HTLZYA := Lib.hid tLZYA
    clear tLZYA
    obtain ⟨aLZYAB, cLZYAB, wLZYAB, hrLZYAB, tLZYAB⟩ := HTLZYA.out.addV HO2.out HPL.out (by omega)
    have HTLZYAB := Lib.hid tLZYAB
    clear tLZYAB
    obtain ⟨fLZYAB0, fLZYAB1, fLZYAB2, fLZYAB3, fLZYAB4, fLZYAB5⟩ := (HTLZYAB.out.box _ rfl).2.1.cells
    have HTLY := Lib.hid (HTL.out.newV (wS.heap.size + 1) (by first | rfl | (simp only [World.size_alloc])))
    have HTLYZ := Lib.hid (HTLY.out.newU (wS.heap.size + 2) (by first | rfl | (simp only [World.size_alloc])))
    obtain ⟨aLYZA, cLYZA, wLYZA, hrLYZA, tLYZA⟩ := HTLYZ.out.drew.addU HO1.out HSL.out (by omega)
    have HTLYZA := Lib.hid tLYZA
    clear tLYZA
    obtain ⟨aLYZAB, cLYZAB, wLYZAB, hrLYZAB, tLYZAB⟩ := HTLYZA.out.addV HO2.out HPL.out (by omega)
    have HTLYZAB := Lib.hid tLYZAB
    clear tLYZAB
    obtain ⟨fLYZAB0, fLYZAB1, fLYZAB2, fLYZAB3, fLYZAB4, fLYZAB5⟩ := (HTLYZAB.out.box _ rfl).2.1.cells
    go_region_held3 (fun w' => w'.cell? ⟨bs, 0, none⟩ = some (.int .i64 (i : Int)) ∧ w'.cell? ⟨bs, 1, none⟩ = some (.slice A1 18 c1) ∧ w'.cell? ⟨bs, 2, none⟩ = some (.slice A2 h c2)) (with_reducible (first | exact HT0.out.drew.keep X4.out | exact HTZAYBL.out.keep X4.out | exact HTZAYB.out.keep X4.out | exact HTZAYLB.out.keep X4.out | exact HTZAYL.out.keep X4.out | exact HTZAY.out.keep X4.out | exact HTZALYB.out.keep X4.out | exact HTZALY.out.keep X4.out | exact HTZAL.out.keep X4.out | exact HTZA.out.keep X4.out | exact HTZYABL.out.keep X4.out | exact HTZYAB.out.keep X4.out | exact HTZYALB.out.keep X4.out | exact HTZYAL.out.keep X4.out | exact HTZYA.out.keep X4.out | exact HTZYLAB.out.keep X4.out | exact HTZYLA.out.keep X4.out | exact HTZYL.out.drew.keep X4.out | exact HTZY.out.drew.keep X4.out | exact HTZLAYB.out.keep X4.out | exact HTZLAY.out.keep X4.out | exact HTZLA.out.keep X4.out | exact HTZLYAB.out.keep X4.out | exact HTZLYA.out.keep X4.out | exact HTZLY.out.drew.keep X4.out | exact HTZL.out.drew.keep X4.out | exact HTZ.out.drew.keep X4.out | exact HTYZABL.out.keep X4.out | exact HTYZAB.out.keep X4.out | exact HTYZALB.out.keep X4.out | exact HTYZAL.out.keep X4.out | exact HTYZA.out.keep X4.out | exact HTYZLAB.out.keep X4.out | exact HTYZLA.out.keep X4.out | exact HTYZL.out.drew.keep X4.out | exact HTYZ.out.drew.keep X4.out | exact HTYLZAB.out.keep X4.out | exact HTYLZA.out.keep X4.out | exact HTYLZ.out.drew.keep X4.out | exact HTYL.out.drew.keep X4.out | exact HTY.out.drew.keep X4.out | exact HTLZAYB.out.keep X4.out | exact HTLZAY.out.keep X4.out | exact HTLZA.out.keep X4.out | exact HTLZYAB.out.keep X4.out | exact HTLZYA.out.keep X4.out | exact HTLZY.out.drew.keep X4.out | exact HTLZ.out.drew.keep X4.out | exact HTLYZAB.out.keep X4.out | exact HTLYZA.out.keep X4.out | exact HTLYZ.out.drew.keep X4.out | exact HTLY.out.drew.keep X4.out | exact HTL.out.drew.keep X4.out | exact (HTZAYBL.out.store _).keep X4.out | exact (HTZAYLB.out.store _).keep X4.out | exact (HTZALYB.out.store _).keep X4.out | exact (HTZYABL.out.store _).keep X4.out | exact (HTZYALB.out.store _).keep X4.out | exact (HTZYLAB.out.store _).keep X4.out | exact (HTZLAYB.out.store _).keep X4.out | exact (HTZLYAB.out.store _).keep X4.out | exact (HTYZABL.out.store _).keep X4.out | exact (HTYZALB.out.store _).keep X4.out | exact (HTYZLAB.out.store _).keep X4.out | exact (HTYLZAB.out.store _).keep X4.out | exact (HTLZAYB.out.store _).keep X4.out | exact (HTLZYAB.out.store _).keep X4.out | exact (HTLYZAB.out.store _).keep X4.out | exact (HTZAYB.out.last _).keep X4.out | exact (HTZYAB.out.last _).keep X4.out | exact (HTYZAB.out.last _).keep X4.out)) (first | (fail) | fail)
    all_goals (go_wp2_with fail; go_meet; with_reducible (first | exact ⟨_, _, _, _, _, rfl, HTZAYBL.out.store _⟩ | exact ⟨_, _, _, _, _, rfl, HTZAYLB.out.store _⟩ | exact ⟨_, _, _, _, _, rfl, HTZALYB.out.store _⟩ | exact ⟨_, _, _, _, _, rfl, HTZYABL.out.store _⟩ | exact ⟨_, _, _, _, _, rfl, HTZYALB.out.store _⟩ | exact ⟨_, _, _, _, _, rfl, HTZYLAB.out.store _⟩ | exact ⟨_, _, _, _, _, rfl, HTZLAYB.out.store _⟩ | exact ⟨_, _, _, _, _, rfl, HTZLYAB.out.store _⟩ | exact ⟨_, _, _, _, _, rfl, HTYZABL.out.store _⟩ | exact ⟨_, _, _, _, _, rfl, HTYZALB.out.store _⟩ | exact ⟨_, _, _, _, _, rfl, HTYZLAB.out.store _⟩ | exact ⟨_, _, _, _, _, rfl, HTYLZAB.out.store _⟩ | exact ⟨_, _, _, _, _, rfl, HTLZAYB.out.store _⟩ | exact ⟨_, _, _, _, _, rfl, HTLZYAB.out.store _⟩ | exact ⟨_, _, _, _, _, rfl, HTLYZAB.out.store _⟩ | exact ⟨_, _, _, _, _, rfl, HTZAYB.out.last _⟩ | exact ⟨_, _, _, _, _, rfl, HTZYAB.out.last _⟩ | exact ⟨_, _, _, _, _, rfl, HTYZAB.out.last _⟩))
  case rest =>
    obtain ⟨g, A5, c5, A6, c6, rfl, HB⟩ := hcut
    obtain ⟨r0, r1, r2, r3, r4, r5⟩ := HB.box.cells
    obtain ⟨s0, s1, s2, _, _, _⟩ := (X4.out.bt HB.below).cells
    have HB := Lib.hid HB
    have WN' := WN.out
    have EK' := EK.out
    go_upto_if 88 with fail
    clear WN' EK'
    rw [EK.out]
    go_cut [20] (fun s20 wx => ∃ (j : Nat) (B5 : Option Addr) (d5 : Nat) (B6 : Option Addr) (d6 : Nat) (l1 l2 : List ByteArray), s20 = .pointer (some ⟨g, 0, none⟩) ∧ Bad wS wx g (j : Int) (.slice B5 18 d5) l1 (.slice B6 h d6) l2 ∧ l1.length = 18 ∧ l2.length = h ∧ j < p ∧ (j = i ∨ l1 = sg) ∧ (∀ s ∈ l1, s.size ≤ 1000) ∧ (∀ s ∈ l2, s.size ≤ 1000))
    case first =>
      by_cases hk : k < 18
      · have hk2 : (k : Int) < 18 := by omega
        have hk3 : (0 : Int) ≤ (k : Int) := by omega
        obtain ⟨b, rfl, hc, hf, HB2⟩ := HB.out.putU HSL.out k hk x
        have HB2 := Lib.hid HB2
        go_wp2_with fail
        go_meet
        exact ⟨i, _, _, _, _, sg.set k x, pt, rfl, HB2.out, by rw [List.length_set, HSL.out], HPL.out, HIP.out, .inl rfl, chg_set_le HZ1.out HZX.out, HZ2.out⟩
      · have hk2 : ¬ (k : Int) < 18 := by omega
        have hw1 : IntKind.i64.wrap (18 + (h : Int)) = 18 + (h : Int) := by rw [IntKind.wrap_i64]; omega
        by_cases hkh : k < 18 + h
        · have hk3 : (k : Int) < 18 + (h : Int) := by omega
          have HW := fun e (he : k - 18 = e) => Lib.hid (show IntKind.i64.wrap ((k : Int) - 18) = (e : Int) by rw [IntKind.wrap_i64]; omega)
          have HW := HW _ rfl
          have he : k - 18 < h := by omega
          generalize k - 18 = e at *
          have he2 : (e : Int) < (h : Int) := by omega
          have he3 : (0 : Int) ≤ (e : Int) := by omega
          obtain ⟨b, rfl, hc, hf, HB2⟩ := HB.out.putV HPL.out e he x
          have HB2 := Lib.hid HB2
          have HW' := HW.out
          go_wp2_with fail
          go_meet
          exact ⟨i, _, _, _, _, sg, pt.set e x, rfl, HB2.out, HSL.out, by rw [List.length_set, HPL.out], HIP.out, .inl rfl, HZ1.out, chg_set_le HZ2.out HZX.out⟩
        · have hk3 : ¬ (k : Int) < 18 + (h : Int) := by omega
          have HW2 := Lib.hid (show IntKind.i64.wrap ((i : Int) + 1) = ((i + 1 : Nat) : Int) by rw [IntKind.wrap_i64]; have := HIP.out; have := H4.out; omega)
          have HW3 := Lib.hid (show wrap64 ((i : Int) + 1) = ((i + 1 : Nat) : Int) by unfold wrap64; have := HIP.out; have := H4.out; omega)
          generalize i + 1 = q at *
          have HE := Lib.hid (show Int.tmod (q : Int) (p : Int) = ((q % p : Nat) : Int) from (Int.ofNat_tmod q p).symm)
          have HJ := Lib.hid (Nat.mod_lt q hq)
          generalize q % p = j at *
          have WPI : Hid (IntKind.i64.wrap ((2 : Int) ^ h) = (p : Int)) := Lib.hid (by have := WP.out; unfold wrap64 at this; rw [IntKind.wrap_i64]; exact this)
          have HBD := Lib.hid HB.out.drew
          have HB2 := Lib.hid (HB.out.putI (j : Int)).drew
          obtain ⟨v0, v1, v2, v3, v4, v5⟩ := HBD.out.box.cells
          clear KEY SG PK M1 SH
          go_upto_region 16 with fail
          have WPI' := WPI.out
          have HE' := HE.out
          have HW2' := HW2.out
          obtain ⟨y0, y1, y2⟩ := HBD.out.keep X4.out
          go_region
          clear WPI' HE' HW2'
          go_wp2_with fail
          go_meet
          exact ⟨j, _, _, _, _, sg, pt, rfl, HB2.out, HSL.out, HPL.out, HJ.out, .inr rfl, HZ1.out, HZ2.out⟩
    case rest =>
      clear r0 r1 r2 r3 r4 r5 s0 s1 s2 HB k0 k1 k2
      obtain ⟨j, B5, d5, B6, d6, l1, l2, rfl, HB, hl1, hl2, hj, hjc, hz1, hz2⟩ := hcut
      obtain ⟨r0, r1, r2, r3, r4, r5⟩ := HB.box.cells
      obtain ⟨s0, s1, s2, _, _, _⟩ := (X4.out.bt HB.below).cells
      obtain ⟨t5, e5, m5⟩ := own_strs HB.ou
      obtain ⟨t6, e6, m6⟩ := own_strs HB.ov
      have KY := KEY.out j l1 l2 hj hjc
      have CK := Lib.hid (fun (w' : World) A1 A2 c1 c2 => checked_ex m j l1 l2 h hl2 A1 A2 c1 c2 w' (by have := H4.out; omega) (by have := Z3.out; omega) hl1 (by omega))
      have L2 := checked_len m j l1 l2
      rw [hl2] at L2
      have TZ := Lib.hid (show ∀ y ∈ x1 ++ Se.checked m j l1 l2, y.size ≤ 140737488355328 from fun y hy => by
        rcases List.mem_append.1 hy with hy | hy
        · exact TM.out y hy
        · exact checked_le m j _ _ hz1 (fun s hs => by have := hz2 s hs; omega) y hy)
      have T5 := Lib.hid t5
      have T6 := Lib.hid t6
      have Q1 := Lib.hid hz1
      have Q2 := Lib.hid hz2
      have HBO := Lib.hid (Bt HB4.out HB.below)
      have XS := Lib.hid (X4.out.bt HB.below)
      have TS1 := Lib.hid (HS1.out.bt HB.below)
      have TS2 := Lib.hid (HS2.out.bt HB.below)
      have XB := Lib.hid HB.box
      have L1' := L1.out
      have SMB := fun b hb => Lib.hid (fun (w' : World) => sameb_ex j i B5 B6 A1 A2 d5 d6 c1 c2 18 h 18 h l1 l2 sg pt hl1 hl2 HSL.out HPL.out b hb w')
      have VFB := fun b hb => Lib.hid (fun (w' : World) => verify_ex pb m j B5 B6 d5 d6 18 h l1 l2 hl1 hl2 b hb w')
      clear KEY hl1 hl2 hj hjc hz1 hz2 t5 t6 HB
      cases hs : decide ((j : Int) = (i : Int) ∧ l1 = sg ∧ l2 = pt) with
      | true =>
        have SM := SMB _ hs
        clear SMB VFB hs KY
        go_wp2_with fail
        refine (SM.out _ T5.out T6.out TS1.out TS2.out (by unfold maxLen; omega) (by unfold maxLen; omega)).mono ?_
        rintro e w7 ⟨rfl, hb7⟩
        have hb7' := Bt HBO.out hb7
        go_wp2_with fail
        go_ret
        exact ⟨rfl, hb7'⟩
      | false =>
        have SM := SMB _ hs
        rw [hs] at KY
        cases hv : vf pb m j l1 l2 with
        | false =>
          have V := VFB _ hv
          clear SMB VFB hs hv KY
          go_wp2_with fail
          refine (SM.out _ T5.out T6.out TS1.out TS2.out (by unfold maxLen; omega) (by unfold maxLen; omega)).mono ?_
          rintro e w7 ⟨rfl, hb7⟩
          have hb7' := Bt HBO.out hb7
          obtain ⟨o0, o1, o2, _, _, _⟩ := (XB.out.bt hb7).cells
          clear r0 r1 r2 r3 r4 r5 s0 s1 s2
          go_wp2_with fail
          refine (V.out _ (T5.out.bt hb7) (T6.out.bt hb7) e5 m5 e6 m6 Z2.out (fun s hs => by have := Q2.out s hs; omega) (HP.out.bt hb7')).mono ?_
          rintro e w8 ⟨rfl, hb8⟩
          have hb8' := Bt hb7' hb8
          go_wp2_with fail
          go_ret
          exact ⟨rfl, hb8'⟩
        | true =>
          have V := VFB _ hv
          have HSH := Lib.hid (show Tr.Shown (x1 ++ Se.checked m j l1 l2) by
            rcases KY with h | h | h
            · cases h
            · rw [hv] at h; cases h
            · exact h)
          clear SMB VFB hs hv KY
          generalize Se.checked m j l1 l2 = x2 at *
          go_wp2_with fail
          refine (SM.out _ T5.out T6.out TS1.out TS2.out (by unfold maxLen; omega) (by unfold maxLen; omega)).mono ?_
          rintro e w7 ⟨rfl, hb7⟩
          have hb7' := Bt HBO.out hb7
          obtain ⟨o0, o1, o2, _, _, _⟩ := (XB.out.bt hb7).cells
          clear r0 r1 r2 r3 r4 r5 s0 s1 s2
          go_wp2_with fail
          refine (V.out _ (T5.out.bt hb7) (T6.out.bt hb7) e5 m5 e6 m6 Z2.out (fun s hs => by have := Q2.out s hs; omega) (HP.out.bt hb7')).mono ?_
          rintro e w8 ⟨rfl, hb8⟩
          have hb8' := Bt hb7' hb8
          have hbw := Bt hb7 hb8
          obtain ⟨u0, u1, u2, _, _, _⟩ := (XB.out.bt hbw).cells
          clear o0 o1 o2
          go_wp2_with fail
          have HT1' := T5.out.bt hbw
          have HT2' := T6.out.bt hbw
          have HT1 : Hid (Strs w8.drew w8.drew.heap.size B5 l1) := Lib.hid HT1'
          have HT2 : Hid (Strs w8.drew w8.drew.heap.size B6 l2) := Lib.hid HT2'
          have X7 := Lib.hid (XB.out.bt hbw)
          have HB17 := Lib.hid hb8'.drew
          clear HT1' HT2'
          go_region_held3 (fun w' => w'.cell? ⟨g, 0, none⟩ = some (.int .i64 (j : Int)) ∧ w'.cell? ⟨g, 1, none⟩ = some (.slice B5 18 d5) ∧ w'.cell? ⟨g, 2, none⟩ = some (.slice B6 h d6)) (first | exact ⟨u0, u1, u2⟩ | exact ⟨p0, p1, p2⟩ | exact ⟨f0, f1, f2⟩ | exact ⟨y0, y1, y2⟩ | exact ⟨z0, z1, z2⟩)
            (first
              | (go_at_call 23
                 (with_reducible refine (M1.out _).mono ?_)
                 rintro e w9 ⟨v9, rfl, ho9, hb9⟩
                 have hb9' := Bt HB17.out hb9
                 obtain ⟨p0, p1, p2, _, _, _⟩ := (Boxed3.bt (w := w8.drew) X7.out hb9).cells)
              | (go_at_call 24
                 (with_reducible refine (CK.out _ B5 B6 d5 d6 (HT1.out.bt hb9) (HT2.out.bt hb9) e5 m5 e6 m6 Q1.out (fun s hs => by have := Q2.out s hs; omega)).mono ?_)
                 rintro e w10 ⟨v10, rfl, ho10, hb10⟩
                 have hb10' := Bt hb9' hb10
                 have ho910 := own_below ho9 hb10
                 obtain ⟨f0, f1, f2, _, _, _⟩ := ((Boxed3.bt (w := w8.drew) X7.out hb9).bt hb10).cells
                 obtain ⟨v11, w11, hrun11, ho11, hb11, _, _⟩ := run_append4 w10 w8.heap.size v9 x1 ho910 v10 _ x2 ho10 (by omega) (Bt hb9 hb10).size 22
                 have hb911 := (Bt hb9 hb10).trans (hb11.mono (Nat.le_refl _))
                 have hb11' := Bt HB17.out hb911
                 obtain ⟨A8, c8, rfl, hs8, hc8, hm8⟩ := ho11.form
                 obtain ⟨y0, y1, y2, _, _, _⟩ := (Boxed3.bt (w := w8.drew) X7.out hb911).cells
                 have HS8 := Lib.hid hs8
                 clear hs8 ho11 hb11)
              | (go_at_call 22
                 with_reducible refine (shown_len A8 c8 (x1 ++ x2) (x1.length + x2.length) (by simp) w11 HS8.out (by omega) TZ.out HSH.out).mono ?_
                 rintro e w12 ⟨rfl, hb12⟩
                 have hb12' := Bt hb11' hb12
                 obtain ⟨z0, z1, z2, _, _, _⟩ := (Boxed3.bt (w := w8.drew) X7.out (Bt hb911 hb12)).cells)
              | fail)
          go_wp2
          go_ret
          exact ⟨rfl, hb12'⟩
end Go.Proofs.YtdlmbpoihnifiaaDoor
