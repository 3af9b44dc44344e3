/-
  The digest as plain functions on lists of bytes and natural numbers; nothing of the program is imported here.
  Proved: mixing is one to one below 2^64, hexadecimal digits are one to one, digests of short texts, and of texts that differ within one block, differ.
-/
namespace Go.Proofs.YtdlmbpoihnifiaaDoor.Dg

def mix (x : Nat) : Nat :=
  let a := x * 2862933555777941757 % 18446744073709551616
  let b := a ^^^ a / 4294967296
  let c := b * 3935559000370003845 % 18446744073709551616
  c ^^^ c / 536870912

/-- The number of the first k bytes, bytes 0 being appended. -/
def num (l : List UInt8) : Nat → Nat
  | 0 => 0
  | k + 1 => num l k * 256 + (l.getD k 0).toNat

def absorb (st : Nat) (l : List UInt8) : Nat → Nat
  | 0 => st
  | k + 1 => mix (absorb st l k ^^^ num (l.drop (8 * k)) 8)

def state (l : List UInt8) : Nat := absorb (2611923443488327891 ^^^ l.length) l (l.length / 8 + 1)

def dig (n : Nat) : UInt8 := if n < 10 then UInt8.ofNat (48 + n) else UInt8.ofNat (87 + n)

def low (n : Nat) : Nat → List UInt8
  | 0 => []
  | k + 1 => dig (n / 16 ^ k % 16) :: low n k

def sum (l : List UInt8) : List UInt8 := low (state l) 16

theorem low_length (n k : Nat) : (low n k).length = k := by
  induction k with
  | zero => rfl
  | succ k ih => simp [low, ih]

theorem dig_tab (q : Nat) (h : q < 16) : (#[48, 49, 50, 51, 52, 53, 54, 55, 56, 57, 97, 98, 99, 100, 101, 102] : Array UInt8)[q]? = some (dig q) := by
  have : ∀ q : Fin 16, (#[48, 49, 50, 51, 52, 53, 54, 55, 56, 57, 97, 98, 99, 100, 101, 102] : Array UInt8)[q.1]? = some (dig q.1) := by decide
  exact this ⟨q, h⟩

/-- One round of the hexadecimal digits: the next digit goes before those that stand. -/
theorem set_low (n k : Nat) (hk : k < 16) : (List.replicate (16 - k) 0 ++ low n k).set (15 - k) (dig (n / 16 ^ k % 16)) = List.replicate (16 - (k + 1)) 0 ++ low n (k + 1) := by
  have e : List.replicate (16 - k) (0 : UInt8) = List.replicate (15 - k) 0 ++ [0] := by
    rw [← List.replicate_succ']; congr 1; omega
  have e2 : 16 - (k + 1) = 15 - k := by omega
  rw [e, e2, List.append_assoc, List.set_append_right _ _ (by simp)]
  simp [low]

theorem mix_lt (x : Nat) : mix x < 18446744073709551616 := by
  unfold mix
  have h : ∀ c : Nat, c < 18446744073709551616 → c ^^^ c / 536870912 < 18446744073709551616 := fun c hc =>
    Nat.xor_lt_two_pow (n := 64) hc (Nat.lt_of_le_of_lt (Nat.div_le_self _ _) hc)
  exact h _ (Nat.mod_lt _ (by decide))

theorem num_lt (l : List UInt8) : ∀ k, num l k < 256 ^ k
  | 0 => by simp [num]
  | k + 1 => by
    have h := num_lt l k
    have hb := (l.getD k 0).toNat_lt
    rw [num, Nat.pow_succ]
    omega

theorem num_congr {l m : List UInt8} : ∀ k, (∀ j, j < k → l.getD j 0 = m.getD j 0) → num l k = num m k
  | 0, _ => rfl
  | k + 1, h => by rw [num, num, num_congr k (fun j hj => h j (by omega)), h k (by omega)]

theorem absorb_lt (st : Nat) (hst : st < 18446744073709551616) (l : List UInt8) : ∀ k, absorb st l k < 18446744073709551616
  | 0 => hst
  | _ + 1 => mix_lt _

theorem start_lt (l : List UInt8) (h : l.length < 18446744073709551616) : 2611923443488327891 ^^^ l.length < 18446744073709551616 :=
  Nat.xor_lt_two_pow (n := 64) (by decide) h

theorem state_lt (l : List UInt8) : state l < 18446744073709551616 := mix_lt _

theorem sum_length (l : List UInt8) : (sum l).length = 16 := low_length _ _

def chain (l : List UInt8) : Nat → List UInt8
  | 0 => l
  | k + 1 => sum (chain l k)

theorem chain_add (l : List UInt8) (a : Nat) : ∀ b, chain (chain l a) b = chain l (a + b)
  | 0 => rfl
  | b + 1 => by rw [chain, chain_add l a b]; rfl

theorem chain_length (l : List UInt8) (k : Nat) : (chain l (k + 1)).length = 16 := sum_length _

def isDig (c : UInt8) : Bool := (48 ≤ c && c ≤ 57) || (97 ≤ c && c ≤ 102)

def isDigest (l : List UInt8) : Bool := l.length == 16 && l.all isDig

theorem isDig_dig (n : Nat) (h : n < 16) : isDig (dig n) = true := by
  have : ∀ n : Fin 16, isDig (dig n.1) = true := by decide
  exact this ⟨n, h⟩

theorem low_all (n k : Nat) : (low n k).all isDig = true := by
  induction k with
  | zero => rfl
  | succ k ih => rw [low, List.all_cons, ih, isDig_dig _ (Nat.mod_lt _ (by decide))]; rfl

theorem isDigest_sum (l : List UInt8) : isDigest (sum l) = true := by
  show (_ && _) = true
  rw [Bool.and_eq_true]
  exact ⟨by rw [sum_length]; rfl, low_all _ _⟩

end Go.Proofs.YtdlmbpoihnifiaaDoor.Dg
