/- Seals (chapter 3) as plain functions on strings of bytes; nothing of the program is imported here.
  Proved: chains, the digits of a message and their checksum, trees of 2^h elements, and what an accepted path says. Seals: the texts that are digested for a public key, and when a seal is checked; what an accepted seal shows. Nothing of the program is imported here. -/
import Derived.Test.YtdlmbpoihnifiaaDoorTrMath
namespace Go.Proofs.YtdlmbpoihnifiaaDoor.Se
open Go.Proofs.YtdlmbpoihnifiaaDoor.Tr

/-- A text after n digests. -/
def ch (x : ByteArray) : Nat → ByteArray
  | 0 => x
  | n + 1 => sm (ch x n)
theorem ch_add (x : ByteArray) (a : Nat) : ∀ b, ch (ch x a) b = ch x (a + b)
  | 0 => rfl
  | b + 1 => by rw [ch, ch_add x a b]; rfl
theorem ch_chain (x : ByteArray) : ∀ n, ch x n = ⟨(Dg.chain x.data.toList n).toArray⟩
  | 0 => by simp [ch, Dg.chain]
  | n + 1 => by
    rw [ch, ch_chain x n, sm]
    rfl
theorem ch_size (x : ByteArray) (n : Nat) : (ch x (n + 1)).size = 16 := sm_size _
theorem ch_digest (x : ByteArray) (n : Nat) : Dg.isDigest (ch x (n + 1)).data.toList = true := Dg.isDigest_sum _

/-- The texts of a chain: the text itself, and n digests more. -/
def chained (x : ByteArray) (n : Nat) : List ByteArray := (List.range (n + 1)).map (ch x)
theorem mem_chained {x : ByteArray} {n k : Nat} (h : k ≤ n) : ch x k ∈ chained x n := List.mem_map.2 ⟨k, List.mem_range.2 (by omega), rfl⟩

/-- Two chains that end equally: equal before, or two different texts with one digest are among theirs. -/
theorem ch_back {x y : ByteArray} {A B : List ByteArray} : ∀ (n : Nat), ch x n = ch y n → (∀ k, k < n → ch x k ∈ A) → (∀ k, k < n → ch y k ∈ B) → x = y ∨ Shown (A ++ B)
  | 0, h, _, _ => .inl h
  | n + 1, h, ha, hb => by
    by_cases he : ch x n = ch y n
    · exact ch_back n he (fun k hk => ha k (by omega)) (fun k hk => hb k (by omega))
    · exact .inr ⟨_, List.mem_append_left _ (ha n (by omega)), _, List.mem_append_right _ (hb n (by omega)), he, h⟩

/-- The value of a hexadecimal digit. -/
def hv (c : UInt8) : Nat := if c.toNat ≤ 57 then c.toNat - 48 else c.toNat - 87
theorem hv_lt {c : UInt8} (h : Dg.isDig c = true) : hv c ≤ 15 := by
  have : ∀ n : Fin 256, Dg.isDig (UInt8.ofNat n.1) = true → hv (UInt8.ofNat n.1) ≤ 15 := by decide +kernel
  have h' := this ⟨c.toNat, c.toNat_lt⟩
  simp only [UInt8.ofNat_toNat] at h'
  exact h' h
theorem hv_inj {c d : UInt8} (hc : Dg.isDig c = true) (hd : Dg.isDig d = true) (h : hv c = hv d) : c = d := by
  unfold Dg.isDig at hc hd
  simp only [Bool.or_eq_true, Bool.and_eq_true, decide_eq_true_eq, UInt8.le_iff_toNat_le] at hc hd
  change (48 ≤ c.toNat ∧ c.toNat ≤ 57) ∨ (97 ≤ c.toNat ∧ c.toNat ≤ 102) at hc
  change (48 ≤ d.toNat ∧ d.toNat ≤ 57) ∨ (97 ≤ d.toNat ∧ d.toNat ≤ 102) at hd
  unfold hv at h
  apply UInt8.toNat_inj.1
  split at h <;> split at h <;> omega

/-- The 16 digits of a message, their checksum, and all 18. -/
def hex (m : ByteArray) : List Nat := (Dg.sum m.data.toList).map hv
def rest (m : ByteArray) : Nat := ((hex m).map fun d => 15 - d).sum
def ds (m : ByteArray) : List Nat := hex m ++ [rest m / 16, rest m % 16]
theorem hex_length (m : ByteArray) : (hex m).length = 16 := by simp [hex, Dg.sum_length]
theorem ds_length (m : ByteArray) : (ds m).length = 18 := by simp [ds, hex_length]
theorem hex_le (m : ByteArray) : ∀ d ∈ hex m, d ≤ 15 := by
  intro d hd
  obtain ⟨c, hc, rfl⟩ := List.mem_map.1 hd
  exact hv_lt (List.all_eq_true.1 (Dg.low_all _ _) c hc)
theorem sum_le (l : List Nat) (M : Nat) (h : ∀ d ∈ l, d ≤ M) : l.sum ≤ l.length * M := by
  induction l with
  | nil => simp
  | cons x r ih =>
    have h1 := h x (List.mem_cons_self ..)
    have h2 := ih fun d hd => h d (List.mem_cons_of_mem _ hd)
    rw [List.sum_cons, List.length_cons, Nat.add_mul]
    omega
theorem rest_le (m : ByteArray) : rest m ≤ 240 := by
  have := sum_le ((hex m).map fun d => 15 - d) 15 (fun d hd => by obtain ⟨x, _, rfl⟩ := List.mem_map.1 hd; omega)
  rw [List.length_map, hex_length] at this
  exact this
theorem ds_le (m : ByteArray) : ∀ d ∈ ds m, d ≤ 15 := by
  intro d hd
  have hr := rest_le m
  rcases List.mem_append.1 hd with h | h
  · exact hex_le m d h
  · generalize rest m = r at *
    simp at h
    omega
theorem ds_getD_le (m : ByteArray) (k : Nat) : (ds m).getD k 0 ≤ 15 := by
  rw [List.getD_eq_getElem?_getD]
  by_cases h : k < (ds m).length
  · rw [List.getElem?_eq_getElem h]
    exact ds_le m _ (List.getElem_mem _)
  · rw [List.getElem?_eq_none (by omega)]
    exact Nat.zero_le _

theorem hex_inj {a b : ByteArray} (h : hex a = hex b) : Dg.sum a.data.toList = Dg.sum b.data.toList := by
  have key : ∀ (x y : List UInt8), (∀ c ∈ x, Dg.isDig c = true) → (∀ c ∈ y, Dg.isDig c = true) → x.map hv = y.map hv → x = y := by
    intro x
    induction x with
    | nil => intro y _ _ h; simp at h; exact h.symm
    | cons c r ih =>
      intro y hx hy h
      cases y with
      | nil => simp at h
      | cons e s =>
        simp only [List.map_cons, List.cons.injEq] at h
        rw [hv_inj (hx c (List.mem_cons_self ..)) (hy e (List.mem_cons_self ..)) h.1, ih s (fun c hc => hx c (List.mem_cons_of_mem _ hc)) (fun c hc => hy c (List.mem_cons_of_mem _ hc)) h.2]
  exact key _ _ (List.all_eq_true.1 (Dg.low_all _ _)) (List.all_eq_true.1 (Dg.low_all _ _)) h

/-- Different digests: one of the 18 digits of the other message is less. -/
theorem less_digit : ∀ (x y : List Nat), x.length = y.length → (∀ d ∈ x, d ≤ 15) → (∀ d ∈ y, d ≤ 15) → x ≠ y → (∃ k, k < x.length ∧ y.getD k 0 < x.getD k 0) ∨ (y.map fun d => 15 - d).sum < (x.map fun d => 15 - d).sum
  | [], [], _, _, _, h => absurd rfl h
  | [], _ :: _, hl, _, _, _ => by simp at hl
  | _ :: _, [], hl, _, _, _ => by simp at hl
  | a :: x, b :: y, hl, hx, hy, h => by
    have ha := hx a (List.mem_cons_self ..)
    have hb := hy b (List.mem_cons_self ..)
    by_cases h1 : b < a
    · exact .inl ⟨0, by simp, by simpa using h1⟩
    · by_cases hxy : x = y
      · right
        subst hxy
        have : a ≠ b := fun e => h (by rw [e])
        simp only [List.map_cons, List.sum_cons]
        omega
      · rcases less_digit x y (by simpa using hl) (fun d hd => hx d (List.mem_cons_of_mem _ hd)) (fun d hd => hy d (List.mem_cons_of_mem _ hd)) hxy with ⟨k, hk, hlt⟩ | hlt
        · exact .inl ⟨k + 1, by simp; omega, by simpa using hlt⟩
        · right
          simp only [List.map_cons, List.sum_cons]
          omega

theorem getD_lo (h : List Nat) (x y k : Nat) (hk : k < h.length) : (h ++ [x, y]).getD k 0 = h.getD k 0 := by
  rw [List.getD_eq_getElem?_getD, List.getD_eq_getElem?_getD, List.getElem?_append_left hk]
theorem getD_16 (h : List Nat) (x y : Nat) (hl : h.length = 16) : (h ++ [x, y]).getD 16 0 = x := by
  rw [List.getD_eq_getElem?_getD, List.getElem?_append_right (by omega), hl]
  rfl
theorem getD_17 (h : List Nat) (x y : Nat) (hl : h.length = 16) : (h ++ [x, y]).getD 17 0 = y := by
  rw [List.getD_eq_getElem?_getD, List.getElem?_append_right (by omega), hl]
  rfl

/-- Two lists of 16 digits that differ, with their checksums: somewhere the second one's digit is less. -/
theorem less_one (x y : List Nat) (u v : Nat) (hx : x.length = 16) (hy : y.length = 16) (lx : ∀ d ∈ x, d ≤ 15) (ly : ∀ d ∈ y, d ≤ 15) (hne : x ≠ y) (hu : u = (x.map fun d => 15 - d).sum) (hv : v = (y.map fun d => 15 - d).sum) :
    ∃ k, k < 18 ∧ (y ++ [v / 16, v % 16]).getD k 0 < (x ++ [u / 16, u % 16]).getD k 0 := by
  rcases less_digit x y (by omega) lx ly hne with ⟨k, hk, hlt⟩ | hlt
  · exact ⟨k, by omega, by rw [getD_lo _ _ _ _ (by omega), getD_lo _ _ _ _ hk]; exact hlt⟩
  · rw [← hu, ← hv] at hlt
    clear hu hv
    by_cases h16 : v / 16 < u / 16
    · exact ⟨16, by decide, by rw [getD_16 _ _ _ hx, getD_16 _ _ _ hy]; exact h16⟩
    · exact ⟨17, by decide, by rw [getD_17 _ _ _ hx, getD_17 _ _ _ hy]; omega⟩

theorem winternitz {a b : ByteArray} (h : Dg.sum a.data.toList ≠ Dg.sum b.data.toList) : ∃ k, k < 18 ∧ (ds b).getD k 0 < (ds a).getD k 0 :=
  less_one (hex a) (hex b) (rest a) (rest b) (hex_length a) (hex_length b) (hex_le a) (hex_le b) (fun e => h (hex_inj e)) rfl rfl

def dec (n : Nat) : ByteArray := ⟨(Lib.decDigits n).toArray⟩
def startT (s : ByteArray) (i k : Nat) : ByteArray := jn [s, dec i, dec k]
def start (s : ByteArray) (i k : Nat) : ByteArray := dg [s, dec i, dec k]
theorem start_sm (s : ByteArray) (i k : Nat) : start s i k = sm (startT s i k) := rfl
def fins (s : ByteArray) (i : Nat) : List ByteArray := (List.range 18).map fun k => ch (start s i k) 15
def key (s : ByteArray) (i : Nat) : ByteArray := dg (fins s i)
def keys (s : ByteArray) (h : Nat) : List ByteArray := (List.range (2 ^ h)).map (key s)
def sig (s : ByteArray) (i : Nat) (m : ByteArray) : List ByteArray := (List.range 18).map fun k => ch (start s i k) ((ds m).getD k 0)
/-- The ends that are computed from the texts of a seal. -/
def ends (m : ByteArray) (sg : List ByteArray) : List ByteArray := (List.range 18).map fun k => ch (sg.getD k ⟨#[]⟩) (15 - (ds m).getD k 0)

theorem keys_length (s : ByteArray) (h : Nat) : (keys s h).length = 2 ^ h := by simp [keys]
theorem sig_length (s : ByteArray) (i : Nat) (m : ByteArray) : (sig s i m).length = 18 := by simp [sig]
theorem keys_get (s : ByteArray) (h i : Nat) (hi : i < 2 ^ h) : (keys s h)[i]'(by rw [keys_length]; exact hi) = key s i := by simp [keys]
theorem range_getD {α : Type} (f : Nat → α) (n k : Nat) (d : α) (h : k < n) : ((List.range n).map f).getD k d = f k := by
  rw [List.getD_eq_getElem?_getD, List.getElem?_map, List.getElem?_range h]
  rfl

/-- What is computed from one's own seal are one's own ends. -/
theorem ends_sig (s : ByteArray) (i : Nat) (m : ByteArray) : ends m (sig s i m) = fins s i := by
  unfold ends fins
  apply List.map_congr_left
  intro k hk
  have hk' := List.mem_range.1 hk
  have hd := ds_getD_le m k
  rw [sig, range_getD _ _ _ _ hk', ch_add]
  congr 1
  omega
/-- .. and from one's own seal of another message: chains that go on, or end before. -/
theorem ends_other (s : ByteArray) (i : Nat) (m o : ByteArray) : ends o (sig s i m) = (List.range 18).map fun k => ch (start s i k) ((ds m).getD k 0 + (15 - (ds o).getD k 0)) := by
  unfold ends
  apply List.map_congr_left
  intro k hk
  rw [sig, range_getD _ _ _ _ (List.mem_range.1 hk), ch_add]

/-- Digits are hexadecimal; a text with a colon is no digest. -/
theorem start_no_digest (s : ByteArray) (i k : Nat) : Dg.isDigest (startT s i k).data.toList = false := by
  have hm : (58 : UInt8) ∈ (startT s i k).data.toList := by
    unfold startT jn
    simp [joined, part]
  unfold Dg.isDigest
  rw [List.all_eq_false.2 ⟨58, hm, by decide⟩, Bool.and_false]

/-- A chain that comes back shows two texts with one digest: its start is the digest of a text that is no digest. -/
theorem circle_shown {s : ByteArray} {i k e : Nat} (he : 0 < e) (h15 : e ≤ 15) (h : ch (start s i k) (15 + e) = ch (start s i k) 15) {A : List ByteArray} (hs : startT s i k ∈ A) (hc : ∀ j, j ≤ 30 → ch (start s i k) j ∈ A) : Shown A := by
  have h' : ch (ch (start s i k) e) 15 = ch (start s i k) 15 := by rw [ch_add, Nat.add_comm]; exact h
  have hA : Shown (A ++ A) → Shown A := fun h => h.mono fun x hx => by rcases List.mem_append.1 hx with h | h <;> exact h
  rcases ch_back (A := A) (B := A) 15 h' (fun j hj => by rw [ch_add]; exact hc _ (by omega)) (fun j hj => hc _ (by omega)) with h1 | h1
  · obtain ⟨f, rfl⟩ : ∃ f, e = f + 1 := ⟨e - 1, by omega⟩
    refine ⟨ch (start s i k) f, hc f (by omega), startT s i k, hs, ?_, h1⟩
    intro e'
    have hno := start_no_digest s i k
    rw [← e'] at hno
    have : Dg.isDigest (ch (start s i k) f).data.toList = true := by
      cases f with
      | zero => exact Dg.isDigest_sum _
      | succ f => exact ch_digest _ _
    rw [this] at hno
    cases hno
  · exact hA h1

/-- Trees of 2^n elements. -/
theorem len_pow : ∀ (n i : Nat), i < 2 ^ n → len (2 ^ n) i = n
  | 0, i, h => len_one i (by simp)
  | n + 1, i, h => by
    have hp : 0 < 2 ^ n := Nat.pow_pos (by omega)
    have hh : half (2 ^ (n + 1)) = 2 ^ n := log_half (n + 1) (by omega)
    have h2 : 2 ≤ 2 ^ (n + 1) := by rw [Nat.pow_succ]; omega
    rw [Nat.pow_succ] at h
    by_cases hi : i < 2 ^ n
    · rw [len_lo h2 (by rw [hh]; exact hi), hh, len_pow n i hi]
    · rw [len_hi h2 (by rw [hh]; exact hi), hh, show 2 ^ (n + 1) - 2 ^ n = 2 ^ n by rw [Nat.pow_succ]; omega, len_pow n (i - 2 ^ n) (by omega)]

/-- A path of another length than the tree's height: a leaf's text meets a node's. -/
theorem heights : ∀ (n h : Nat) (l : List ByteArray) (i : Nat) (x : ByteArray) (p : List ByteArray), l.length = 2 ^ h → i < 2 ^ n → n ≠ h → up (2 ^ n) i (leaf x) p = root l → Shown (texts l ++ pathTexts (2 ^ n) i x p)
  | 0, 0, _, _, _, _, _, _, hne, _ => absurd rfl hne
  | 0, h + 1, l, i, x, p, hl, hi, hne, hu => by
    have h2 : 2 ≤ l.length := by rw [hl, Nat.pow_succ]; have : 0 < 2 ^ h := Nat.pow_pos (by omega); omega
    rw [up_one _ _ _ (by simp), root_two h2] at hu
    rw [texts_two h2, pathTexts_one _ _ _ (by simp)]
    rcases eq_or_shown hu.symm (A := texts _ ++ texts _ ++ [_]) (B := [_]) (List.mem_append_right _ (List.mem_singleton.2 rfl)) (List.mem_singleton.2 rfl) with e | e
    · simp at e
    · exact e
  | n + 1, 0, l, i, x, p, hl, hi, hne, hu => by
    have hp : 0 < 2 ^ n := Nat.pow_pos (by omega)
    have h2 : 2 ≤ 2 ^ (n + 1) := by rw [Nat.pow_succ]; omega
    obtain ⟨y, rfl⟩ := List.length_eq_one_iff.1 (show l.length = 1 by simpa using hl)
    rw [root_one] at hu
    rw [texts_one]
    by_cases hk : i < half (2 ^ (n + 1))
    · rw [up_lo _ _ h2 hk] at hu
      rw [pathTexts_lo _ _ h2 hk]
      rcases eq_or_shown hu.symm (A := [_]) (B := _ ++ [_]) (List.mem_singleton.2 rfl) (List.mem_append_right _ (List.mem_singleton.2 rfl)) with e | e
      · simp at e
      · exact e
    · rw [up_hi _ _ h2 hk] at hu
      rw [pathTexts_hi _ _ h2 hk]
      rcases eq_or_shown hu.symm (A := [_]) (B := _ ++ [_]) (List.mem_singleton.2 rfl) (List.mem_append_right _ (List.mem_singleton.2 rfl)) with e | e
      · simp at e
      · exact e
  | n + 1, h + 1, l, i, x, p, hl, hi, hne, hu => by
    have hp : 0 < 2 ^ n := Nat.pow_pos (by omega)
    have hq : 0 < 2 ^ h := Nat.pow_pos (by omega)
    have h2 : 2 ≤ 2 ^ (n + 1) := by rw [Nat.pow_succ]; omega
    have h3 : 2 ≤ l.length := by rw [hl, Nat.pow_succ]; omega
    have hn : half (2 ^ (n + 1)) = 2 ^ n := log_half (n + 1) (by omega)
    have hh : half l.length = 2 ^ h := by rw [hl]; exact log_half (h + 1) (by omega)
    have hd : 2 ^ (n + 1) - 2 ^ n = 2 ^ n := by rw [Nat.pow_succ]; omega
    rw [Nat.pow_succ] at hi
    rw [root_two h3] at hu
    rw [texts_two h3]
    have e1 : (l.take (half l.length)).length = 2 ^ h := by rw [List.length_take, hh, hl, Nat.pow_succ]; omega
    have e2 : (l.drop (half l.length)).length = 2 ^ h := by rw [List.length_drop, hh, hl, Nat.pow_succ]; omega
    by_cases hk : i < half (2 ^ (n + 1))
    · rw [up_lo _ _ h2 hk, hn] at hu
      rw [pathTexts_lo _ _ h2 hk, hn]
      rw [hn] at hk
      rcases eq_or_shown hu.symm (A := texts _ ++ texts _ ++ [_]) (B := _ ++ [_]) (List.mem_append_right _ (List.mem_singleton.2 rfl)) (List.mem_append_right _ (List.mem_singleton.2 rfl)) with e | e
      · simp only [List.cons.injEq, true_and, and_true] at e
        exact (heights n h _ i x p.dropLast e1 hk (by omega) e.1.symm).sub (fun x hx => by simp [hx]) (fun x hx => by simp [hx])
      · exact e
    · rw [up_hi _ _ h2 hk, hn, hd] at hu
      rw [pathTexts_hi _ _ h2 hk, hn, hd]
      rw [hn] at hk
      rcases eq_or_shown hu.symm (A := texts _ ++ texts _ ++ [_]) (B := _ ++ [_]) (List.mem_append_right _ (List.mem_singleton.2 rfl)) (List.mem_append_right _ (List.mem_singleton.2 rfl)) with e | e
      · simp only [List.cons.injEq, true_and, and_true] at e
        exact (heights n h _ (i - 2 ^ n) x p.dropLast e2 (by omega) (by omega) e.2.symm).sub (fun x hx => by simp [hx]) (fun x hx => by simp [hx])
      · exact e

/-- A path of the right length that proves an element is the path of this element. -/
theorem path_only : ∀ (N : Nat) (l : List ByteArray) (i : Nat) (x : ByteArray) (p : List ByteArray), l.length ≤ N → i < l.length → p.length = len l.length i → up l.length i (leaf x) p = root l → p = path l i ∨ Shown (texts l ++ pathTexts l.length i x p)
  | 0, l, i, x, p, hN, hi, hp, h => by omega
  | N + 1, l, i, x, p, hN, hi, hp, h => by
    by_cases h1 : l.length ≤ 1
    · rw [len_one i h1] at hp
      rw [path_one i h1]
      exact .inl (List.eq_nil_of_length_eq_zero hp)
    · have l1 := half_lt (n := l.length) (by omega)
      have l2 := half_pos l.length
      have hne : p ≠ [] := fun e => by
        subst e
        by_cases hk : i < half l.length
        · rw [len_lo (by omega) hk] at hp; simp at hp
        · rw [len_hi (by omega) hk] at hp; simp at hp
      have hsplit : p = p.dropLast ++ [p.getLastD ⟨#[]⟩] := by
        rw [List.getLastD_eq_getLast?, List.getLast?_eq_some_getLast hne]
        exact (List.dropLast_concat_getLast hne).symm
      have hdl := List.length_dropLast (xs := p)
      rw [root_two (l := l) (by omega)] at h
      rw [texts_two (l := l) (by omega)]
      by_cases hk : i < half l.length
      · have e1 : (l.take (half l.length)).length = half l.length := by simp; omega
        rw [len_lo (by omega) hk] at hp
        rw [up_lo _ _ (by omega) hk] at h
        rw [pathTexts_lo _ _ (by omega) hk, path_lo (by omega) hk]
        rcases eq_or_shown h.symm (A := texts (l.take (half l.length)) ++ texts (l.drop (half l.length)) ++ [_]) (B := _ ++ [_]) (List.mem_append_right _ (List.mem_singleton.2 rfl)) (List.mem_append_right _ (List.mem_singleton.2 rfl)) with e | e
        · simp only [List.cons.injEq, true_and, and_true] at e
          have ih := path_only N (l.take (half l.length)) i x p.dropLast (by omega) (by omega) (by rw [e1, hdl, hp]; rfl) (by rw [e1]; exact e.1.symm)
          rw [e1] at ih
          rcases ih with ih | ih
          · left
            rw [hsplit, ih, e.2]
          · exact .inr (ih.sub (fun x hx => by simp [hx]) (fun x hx => by simp [hx]))
        · exact .inr e
      · have e1 : (l.drop (half l.length)).length = l.length - half l.length := by simp
        rw [len_hi (by omega) hk] at hp
        rw [up_hi _ _ (by omega) hk] at h
        rw [pathTexts_hi _ _ (by omega) hk, path_hi (by omega) hk]
        rcases eq_or_shown h.symm (A := texts (l.take (half l.length)) ++ texts (l.drop (half l.length)) ++ [_]) (B := _ ++ [_]) (List.mem_append_right _ (List.mem_singleton.2 rfl)) (List.mem_append_right _ (List.mem_singleton.2 rfl)) with e | e
        · simp only [List.cons.injEq, true_and, and_true] at e
          have ih := path_only N (l.drop (half l.length)) (i - half l.length) x p.dropLast (by omega) (by omega) (by rw [e1, hdl, hp]; rfl) (by rw [e1]; exact e.2.symm)
          rw [e1] at ih
          rcases ih with ih | ih
          · left
            rw [hsplit, ih, e.1]
          · exact .inr (ih.sub (fun x hx => by simp [hx]) (fun x hx => by simp [hx]))
        · exact .inr e
end Go.Proofs.YtdlmbpoihnifiaaDoor.Se

namespace Go.Proofs.YtdlmbpoihnifiaaDoor.Se
open Go.Proofs.YtdlmbpoihnifiaaDoor.Tr

/-- One level up: the texts of the nodes, and their digests. -/
def pairT : List ByteArray → List ByteArray
  | a :: b :: r => jn [⟨#[110, 111, 100, 101]⟩, a, b] :: pairT r
  | _ => []
def pairD : List ByteArray → List ByteArray
  | a :: b :: r => node a b :: pairD r
  | _ => []
/-- All levels of h heights. -/
def lv : Nat → List ByteArray → List ByteArray
  | 0, _ => []
  | h + 1, l => pairT l ++ lv h (pairD l)

theorem pairD_append : ∀ (n : Nat) (a b : List ByteArray), a.length = 2 * n → pairD (a ++ b) = pairD a ++ pairD b
  | 0, a, b, h => by
    obtain rfl : a = [] := List.eq_nil_of_length_eq_zero (by omega)
    rfl
  | n + 1, a, b, h => by
    match a, h with
    | x :: y :: r, h => simp only [List.cons_append, pairD]; rw [pairD_append n r b (by simpa using by simp at h; omega)]
theorem pairT_append : ∀ (n : Nat) (a b : List ByteArray), a.length = 2 * n → pairT (a ++ b) = pairT a ++ pairT b
  | 0, a, b, h => by
    obtain rfl : a = [] := List.eq_nil_of_length_eq_zero (by omega)
    rfl
  | n + 1, a, b, h => by
    match a, h with
    | x :: y :: r, h => simp only [List.cons_append, pairT]; rw [pairT_append n r b (by simpa using by simp at h; omega)]
theorem pairD_length : ∀ (n : Nat) (a : List ByteArray), a.length = 2 * n → (pairD a).length = n
  | 0, a, h => by
    obtain rfl : a = [] := List.eq_nil_of_length_eq_zero (by omega)
    rfl
  | n + 1, a, h => by
    match a, h with
    | x :: y :: r, h => simp only [pairD, List.length_cons]; rw [pairD_length n r (by simp at h; omega)]

/-- The root over a list of 2^h digests, and the texts of its nodes, from above. -/
def R : Nat → List ByteArray → ByteArray
  | 0, l => l.headD ⟨#[]⟩
  | h + 1, l => node (R h (l.take (2 ^ h))) (R h (l.drop (2 ^ h)))
def T : Nat → List ByteArray → List ByteArray
  | 0, _ => []
  | h + 1, l => T h (l.take (2 ^ h)) ++ T h (l.drop (2 ^ h)) ++ [jn [⟨#[110, 111, 100, 101]⟩, R h (l.take (2 ^ h)), R h (l.drop (2 ^ h))]]

theorem pow_two (h : Nat) : 2 ^ (h + 1) = 2 * 2 ^ h := by rw [Nat.pow_succ]; omega

theorem pair_split (h : Nat) (l : List ByteArray) (hl : l.length = 2 ^ (h + 2)) :
    pairD (l.take (2 ^ (h + 1))) = (pairD l).take (2 ^ h) ∧ pairD (l.drop (2 ^ (h + 1))) = (pairD l).drop (2 ^ h) ∧ pairT l = pairT (l.take (2 ^ (h + 1))) ++ pairT (l.drop (2 ^ (h + 1))) := by
  have e1 : (l.take (2 ^ (h + 1))).length = 2 * 2 ^ h := by rw [List.length_take, hl, pow_two (h + 1), pow_two h]; omega
  have hd := pairD_append (2 ^ h) (l.take (2 ^ (h + 1))) (l.drop (2 ^ (h + 1))) e1
  have ht := pairT_append (2 ^ h) (l.take (2 ^ (h + 1))) (l.drop (2 ^ (h + 1))) e1
  rw [List.take_append_drop] at hd ht
  have e2 := pairD_length (2 ^ h) (l.take (2 ^ (h + 1))) e1
  refine ⟨?_, ?_, ht⟩
  · rw [hd, List.take_left' e2]
  · rw [hd, List.drop_left' e2]

theorem R_pair : ∀ (h : Nat) (l : List ByteArray), l.length = 2 ^ (h + 1) → R (h + 1) l = R h (pairD l)
  | 0, l, hl => by
    match l, hl with
    | [a, b], _ => rfl
  | h + 1, l, hl => by
    obtain ⟨d1, d2, _⟩ := pair_split h l hl
    have e1 : (l.take (2 ^ (h + 1))).length = 2 ^ (h + 1) := by rw [List.length_take, hl, pow_two (h + 1)]; omega
    have e2 : (l.drop (2 ^ (h + 1))).length = 2 ^ (h + 1) := by rw [List.length_drop, hl, pow_two (h + 1)]; omega
    show node (R (h + 1) (l.take (2 ^ (h + 1)))) (R (h + 1) (l.drop (2 ^ (h + 1)))) = node (R h ((pairD l).take (2 ^ h))) (R h ((pairD l).drop (2 ^ h)))
    rw [R_pair h _ e1, R_pair h _ e2, d1, d2]

theorem T_pair : ∀ (h : Nat) (l : List ByteArray), l.length = 2 ^ (h + 1) → ∀ x ∈ T (h + 1) l, x ∈ pairT l ++ T h (pairD l)
  | 0, l, hl, x, hx => by
    match l, hl with
    | [a, b], _ => simpa [T, R, pairT] using hx
  | h + 1, l, hl, x, hx => by
    obtain ⟨d1, d2, t⟩ := pair_split h l hl
    have e1 : (l.take (2 ^ (h + 1))).length = 2 ^ (h + 1) := by rw [List.length_take, hl, pow_two (h + 1)]; omega
    have e2 : (l.drop (2 ^ (h + 1))).length = 2 ^ (h + 1) := by rw [List.length_drop, hl, pow_two (h + 1)]; omega
    have hx' : x ∈ T (h + 1) (l.take (2 ^ (h + 1))) ++ T (h + 1) (l.drop (2 ^ (h + 1))) ++ [jn [⟨#[110, 111, 100, 101]⟩, R (h + 1) (l.take (2 ^ (h + 1))), R (h + 1) (l.drop (2 ^ (h + 1)))]] := hx
    have goal : x ∈ pairT l ++ (T h ((pairD l).take (2 ^ h)) ++ T h ((pairD l).drop (2 ^ h)) ++ [jn [⟨#[110, 111, 100, 101]⟩, R h ((pairD l).take (2 ^ h)), R h ((pairD l).drop (2 ^ h))]]) := by
      rw [← d1, ← d2, t]
      rw [R_pair h _ e1, R_pair h _ e2] at hx'
      rw [List.mem_append, List.mem_append] at hx'
      rcases hx' with (hx' | hx') | hx'
      · have := T_pair h _ e1 x hx'
        rw [List.mem_append] at this
        rcases this with h | h <;> simp [h]
      · have := T_pair h _ e2 x hx'
        rw [List.mem_append] at this
        rcases this with h | h <;> simp [h]
      · rw [List.mem_singleton.1 hx']
        simp
    exact goal

theorem T_lv : ∀ (h : Nat) (l : List ByteArray), l.length = 2 ^ h → ∀ x ∈ T h l, x ∈ lv h l
  | 0, _, _, _, hx => hx
  | h + 1, l, hl, x, hx => by
    have e := pairD_length (2 ^ h) l (by rw [hl, pow_two])
    rcases List.mem_append.1 (T_pair h l hl x hx) with h1 | h1
    · exact List.mem_append_left _ h1
    · exact List.mem_append_right _ (T_lv h (pairD l) e x h1)

/-- The roots and texts of chapter 2 for 2^h elements. -/
theorem root_R : ∀ (h : Nat) (l : List ByteArray), l.length = 2 ^ h → root l = R h (l.map leaf)
  | 0, l, hl => by
    obtain ⟨x, rfl⟩ := List.length_eq_one_iff.1 (show l.length = 1 by simpa using hl)
    rw [root_one]
    rfl
  | h + 1, l, hl => by
    have hp : 0 < 2 ^ h := Nat.pow_pos (by omega)
    have hh : half l.length = 2 ^ h := by rw [hl]; exact log_half (h + 1) (by omega)
    rw [root_two (by rw [hl, pow_two]; omega), hh, root_R h (l.take (2 ^ h)) (by rw [List.length_take, hl, pow_two]; omega), root_R h (l.drop (2 ^ h)) (by rw [List.length_drop, hl, pow_two]; omega), List.map_take, List.map_drop]
    rfl
theorem texts_T : ∀ (h : Nat) (l : List ByteArray), l.length = 2 ^ h → ∀ x ∈ texts l, x ∈ l.map (fun y => jn [⟨#[108, 101, 97, 102]⟩, y]) ++ T h (l.map leaf)
  | 0, l, hl, x, hx => by
    obtain ⟨y, rfl⟩ := List.length_eq_one_iff.1 (show l.length = 1 by simpa using hl)
    rw [texts_one] at hx
    exact List.mem_append_left _ (by simpa using hx)
  | h + 1, l, hl, x, hx => by
    have hp : 0 < 2 ^ h := Nat.pow_pos (by omega)
    have hh : half l.length = 2 ^ h := by rw [hl]; exact log_half (h + 1) (by omega)
    have e1 : (l.take (2 ^ h)).length = 2 ^ h := by rw [List.length_take, hl, pow_two]; omega
    have e2 : (l.drop (2 ^ h)).length = 2 ^ h := by rw [List.length_drop, hl, pow_two]; omega
    rw [texts_two (by rw [hl, pow_two]; omega), hh] at hx
    show x ∈ _ ++ (T h ((l.map leaf).take (2 ^ h)) ++ T h ((l.map leaf).drop (2 ^ h)) ++ [jn [⟨#[110, 111, 100, 101]⟩, R h ((l.map leaf).take (2 ^ h)), R h ((l.map leaf).drop (2 ^ h))]])
    rw [← List.map_take, ← List.map_drop, ← root_R h _ e1, ← root_R h _ e2]
    rw [List.mem_append, List.mem_append] at hx
    rcases hx with (hx | hx) | hx
    · rcases List.mem_append.1 (texts_T h _ e1 x hx) with h1 | h1
      · obtain ⟨y, hy, rfl⟩ := List.mem_map.1 h1
        exact List.mem_append_left _ (List.mem_map.2 ⟨y, List.mem_of_mem_take hy, rfl⟩)
      · exact List.mem_append_right _ (List.mem_append_left _ (List.mem_append_left _ h1))
    · rcases List.mem_append.1 (texts_T h _ e2 x hx) with h1 | h1
      · obtain ⟨y, hy, rfl⟩ := List.mem_map.1 h1
        exact List.mem_append_left _ (List.mem_map.2 ⟨y, List.mem_of_mem_drop hy, rfl⟩)
      · exact List.mem_append_right _ (List.mem_append_left _ (List.mem_append_right _ h1))
    · rw [List.mem_singleton.1 hx]
      simp

/-- What is digested for one key, for all keys, and for a public key. -/
def madeKey (s : ByteArray) (i n : Nat) : List ByteArray :=
  ((List.range 18).flatMap fun k => startT s i k :: chained (start s i k) n) ++ [jn (fins s i), jn [⟨#[108, 101, 97, 102]⟩, key s i]]
def made (s : ByteArray) (h n : Nat) : List ByteArray := ((List.range (2 ^ h)).flatMap fun i => madeKey s i n) ++ lv h ((keys s h).map leaf)

theorem made_key {s : ByteArray} {h n i : Nat} {x : ByteArray} (hi : i < 2 ^ h) (hx : x ∈ madeKey s i n) : x ∈ made s h n :=
  List.mem_append_left _ (List.mem_flatMap.2 ⟨i, List.mem_range.2 hi, hx⟩)
theorem made_start {s : ByteArray} {h n i k : Nat} (hi : i < 2 ^ h) (hk : k < 18) : startT s i k ∈ made s h n :=
  made_key hi (List.mem_append_left _ (List.mem_flatMap.2 ⟨k, List.mem_range.2 hk, List.mem_cons_self ..⟩))
theorem made_chain {s : ByteArray} {h n i k j : Nat} (hi : i < 2 ^ h) (hk : k < 18) (hj : j ≤ n) : ch (start s i k) j ∈ made s h n :=
  made_key hi (List.mem_append_left _ (List.mem_flatMap.2 ⟨k, List.mem_range.2 hk, List.mem_cons_of_mem _ (mem_chained hj)⟩))
theorem made_fins {s : ByteArray} {h n i : Nat} (hi : i < 2 ^ h) : jn (fins s i) ∈ made s h n :=
  made_key hi (List.mem_append_right _ (List.mem_cons_self ..))
theorem made_texts {s : ByteArray} {h n : Nat} : ∀ x ∈ texts (keys s h), x ∈ made s h n := by
  intro x hx
  rcases List.mem_append.1 (texts_T h _ (keys_length s h) x hx) with h1 | h1
  · obtain ⟨y, hy, rfl⟩ := List.mem_map.1 h1
    obtain ⟨i, hi, rfl⟩ := List.mem_map.1 hy
    exact made_key (List.mem_range.1 hi) (List.mem_append_right _ (List.mem_cons_of_mem _ (List.mem_cons_self ..)))
  · exact List.mem_append_right _ (T_lv h _ (by rw [List.length_map, keys_length]) x h1)

/-- Upwards from a leaf: the texts, and the digest at the end. -/
def step (at_ : ByteArray) (i : Nat) (q : ByteArray) : List ByteArray := if i % 2 = 1 then [⟨#[110, 111, 100, 101]⟩, q, at_] else [⟨#[110, 111, 100, 101]⟩, at_, q]
def climb (at_ : ByteArray) (i : Nat) : List ByteArray → List ByteArray
  | [] => []
  | q :: r => jn (step at_ i q) :: climb (dg (step at_ i q)) (i / 2) r
def top (at_ : ByteArray) (i : Nat) : List ByteArray → ByteArray
  | [] => at_
  | q :: r => top (dg (step at_ i q)) (i / 2) r

theorem climb_mod : ∀ (p : List ByteArray) (at_ : ByteArray) (i : Nat), climb at_ (i % 2 ^ p.length) p = climb at_ i p ∧ top at_ (i % 2 ^ p.length) p = top at_ i p
  | [], at_, i => ⟨rfl, rfl⟩
  | q :: r, at_, i => by
    have h1 : i % 2 ^ (q :: r).length % 2 = i % 2 := by
      rw [List.length_cons, pow_two, Nat.mod_mul_right_mod]
    have h2 : i % 2 ^ (q :: r).length / 2 = i / 2 % 2 ^ r.length := by
      rw [List.length_cons, pow_two, Nat.mod_mul_right_div_self]
    have hs : step at_ (i % 2 ^ (q :: r).length) q = step at_ i q := by unfold step; rw [h1]
    have ih := climb_mod r (dg (step at_ i q)) (i / 2)
    constructor
    · show jn _ :: climb _ _ r = jn _ :: climb _ _ r
      rw [hs, h2, ih.1]
    · show top _ _ r = top _ _ r
      rw [hs, h2, ih.2]

theorem climb_append : ∀ (p : List ByteArray) (q : List ByteArray) (at_ : ByteArray) (i : Nat), climb at_ i (p ++ q) = climb at_ i p ++ climb (top at_ i p) (i / 2 ^ p.length) q ∧ top at_ i (p ++ q) = top (top at_ i p) (i / 2 ^ p.length) q
  | [], q, at_, i => by simp [climb, top]
  | x :: r, q, at_, i => by
    have ih := climb_append r q (dg (step at_ i x)) (i / 2)
    have e : i / 2 / 2 ^ r.length = i / 2 ^ (x :: r).length := by rw [List.length_cons, pow_two, Nat.div_div_eq_div_mul]
    rw [e] at ih
    constructor
    · show jn _ :: climb _ _ (r ++ q) = jn _ :: (climb _ _ r ++ _)
      rw [ih.1]
      rfl
    · exact ih.2

theorem up_top : ∀ (n i : Nat) (x : ByteArray) (p : List ByteArray), p.length = n → i < 2 ^ n → up (2 ^ n) i (leaf x) p = top (leaf x) i p ∧ ∀ y ∈ pathTexts (2 ^ n) i x p, y = jn [⟨#[108, 101, 97, 102]⟩, x] ∨ y ∈ climb (leaf x) i p
  | 0, i, x, p, hp, hi => by
    rw [List.eq_nil_of_length_eq_zero hp, up_one _ _ _ (by simp), pathTexts_one _ _ _ (by simp)]
    exact ⟨rfl, fun y hy => .inl (List.mem_singleton.1 hy)⟩
  | n + 1, i, x, p, hp, hi => by
    have hpos : 0 < 2 ^ n := Nat.pow_pos (by omega)
    have h2 : 2 ≤ 2 ^ (n + 1) := by rw [pow_two]; omega
    have hn : half (2 ^ (n + 1)) = 2 ^ n := log_half (n + 1) (by omega)
    have hd : 2 ^ (n + 1) - 2 ^ n = 2 ^ n := by rw [pow_two]; omega
    rw [pow_two] at hi
    have hne : p ≠ [] := fun e => by rw [e] at hp; simp at hp
    have hsplit : p.dropLast ++ [p.getLastD ⟨#[]⟩] = p := by
      rw [List.getLastD_eq_getLast?, List.getLast?_eq_some_getLast hne]
      exact List.dropLast_concat_getLast hne
    have hdl : p.dropLast.length = n := by rw [List.length_dropLast, hp]; rfl
    obtain ⟨c1, c2⟩ := climb_append p.dropLast [p.getLastD ⟨#[]⟩] (leaf x) i
    rw [hsplit, hdl] at c1 c2
    obtain ⟨m1, m2⟩ := climb_mod p.dropLast (leaf x) i
    rw [hdl] at m1 m2
    by_cases hk : i < 2 ^ n
    · have ih := up_top n i x p.dropLast hdl hk
      have hz : i / 2 ^ n = 0 := Nat.div_eq_of_lt hk
      rw [hz] at c1 c2
      rw [up_lo _ _ h2 (by rw [hn]; exact hk), pathTexts_lo _ _ h2 (by rw [hn]; exact hk), hn, ih.1]
      refine ⟨c2.symm, fun y hy => ?_⟩
      rw [c1]
      rcases List.mem_append.1 hy with hy | hy
      · rcases ih.2 y hy with h | h
        · exact .inl h
        · exact .inr (List.mem_append_left _ h)
      · exact .inr (List.mem_append_right _ (by rw [List.mem_singleton.1 hy]; exact List.mem_cons_self ..))
    · have hi' : i % 2 ^ n = i - 2 ^ n := by rw [Nat.mod_eq_sub_mod (by omega), Nat.mod_eq_of_lt (by omega)]
      have hz : i / 2 ^ n = 1 := by
        rw [Nat.div_eq_sub_div hpos (by omega), Nat.div_eq_of_lt (by omega)]
      have ih := up_top n (i - 2 ^ n) x p.dropLast hdl (by omega)
      rw [hi'] at m1 m2
      rw [hz] at c1 c2
      rw [up_hi _ _ h2 (by rw [hn]; exact hk), pathTexts_hi _ _ h2 (by rw [hn]; exact hk), hn, hd, ih.1]
      rw [m1] at ih
      rw [m2]
      refine ⟨c2.symm, fun y hy => ?_⟩
      rw [c1]
      rcases List.mem_append.1 hy with hy | hy
      · rcases ih.2 y hy with h | h
        · exact .inl h
        · exact .inr (List.mem_append_left _ h)
      · exact .inr (List.mem_append_right _ (by rw [List.mem_singleton.1 hy]; exact List.mem_cons_self ..))

/-- What is digested when a seal is checked. -/
def checked (m : ByteArray) (i : Nat) (sg pt : List ByteArray) : List ByteArray :=
  ((List.range 18).flatMap fun k => chained (sg.getD k ⟨#[]⟩) (15 - (ds m).getD k 0)) ++ [jn (ends m sg), jn [⟨#[108, 101, 97, 102]⟩, dg (ends m sg)]] ++ climb (leaf (dg (ends m sg))) i pt

theorem checked_chain {m : ByteArray} {i k j : Nat} {sg pt : List ByteArray} (hk : k < 18) (hj : j ≤ 15 - (ds m).getD k 0) : ch (sg.getD k ⟨#[]⟩) j ∈ checked m i sg pt :=
  List.mem_append_left _ (List.mem_append_left _ (List.mem_flatMap.2 ⟨k, List.mem_range.2 hk, mem_chained hj⟩))
theorem checked_ends {m : ByteArray} {i : Nat} {sg pt : List ByteArray} : jn (ends m sg) ∈ checked m i sg pt :=
  List.mem_append_left _ (List.mem_append_right _ (List.mem_cons_self ..))
theorem checked_path {m : ByteArray} {i : Nat} {sg pt : List ByteArray} (hi : i < 2 ^ pt.length) : ∀ y ∈ pathTexts (2 ^ pt.length) i (dg (ends m sg)) pt, y ∈ checked m i sg pt := by
  intro y hy
  rcases (up_top _ i (dg (ends m sg)) pt rfl hi).2 y hy with rfl | h
  · exact List.mem_append_left _ (List.mem_append_right _ (List.mem_cons_of_mem _ (List.mem_cons_self ..)))
  · exact List.mem_append_right _ h

theorem list_ext_getD {x y : List ByteArray} {n : Nat} (hx : x.length = n) (hy : y.length = n) (h : ∀ k, k < n → x.getD k ⟨#[]⟩ = y.getD k ⟨#[]⟩) : x = y := by
  apply List.ext_getElem (by omega)
  intro k h1 h2
  have := h k (by omega)
  rwa [List.getD_eq_getElem?_getD, List.getD_eq_getElem?_getD, List.getElem?_eq_getElem h1, List.getElem?_eq_getElem h2] at this

/-- What is accepted for a public key: the element's key is that of the ends, or two texts with one digest are shown. -/
theorem accepted {s m : ByteArray} {h i n : Nat} {sg pt : List ByteArray} (hi : i < 2 ^ pt.length) (hu : up (2 ^ pt.length) i (leaf (dg (ends m sg))) pt = root (keys s h)) :
    (pt.length = h ∧ ends m sg = fins s i ∧ pt = path (keys s h) i) ∨ Shown (made s h n ++ checked m i sg pt) := by
  by_cases hn : pt.length = h
  · subst hn
    have hl := keys_length s pt.length
    have hi' : i < (keys s pt.length).length := by rw [hl]; exact hi
    have sub : Shown (texts (keys s pt.length) ++ pathTexts (2 ^ pt.length) i (dg (ends m sg)) pt) → Shown (made s pt.length n ++ checked m i sg pt) := fun h => h.sub made_texts (checked_path hi)
    have hb := path_binds _ (keys s pt.length) i (dg (ends m sg)) pt (Nat.le_refl _) hi' (by rw [hl]; exact hu)
    rw [hl, keys_get s pt.length i hi] at hb
    rcases hb with hb | hb
    · have ho := path_only _ (keys s pt.length) i (dg (ends m sg)) pt (Nat.le_refl _) hi' (by rw [hl, len_pow _ i hi]) (by rw [hl]; exact hu)
      rw [hl] at ho
      rcases ho with ho | ho
      · rcases eq_or_shown (a := fins s i) (b := ends m sg) hb.symm (made_fins (n := n) hi) (checked_ends (i := i) (pt := pt)) with e | e
        · exact .inl ⟨rfl, e.symm, ho⟩
        · exact .inr e
      · exact .inr (sub ho)
    · exact .inr (sub hb)
  · right
    exact (heights pt.length h (keys s h) i (dg (ends m sg)) pt (keys_length s h) hi hn hu).sub made_texts (checked_path hi)

/-- P3.3. -/
theorem sound {s m : ByteArray} {h i : Nat} {sg pt : List ByteArray} (hsg : sg.length = 18) (hi : i < 2 ^ pt.length) (hu : up (2 ^ pt.length) i (leaf (dg (ends m sg))) pt = root (keys s h)) :
    (pt.length = h ∧ sg = sig s i m ∧ pt = path (keys s h) i) ∨ Shown (made s h 15 ++ checked m i sg pt) := by
  rcases accepted (n := 15) hi hu with ⟨hn, he, hp⟩ | hs
  · subst hn
    by_cases hall : ∀ k, k < 18 → sg.getD k ⟨#[]⟩ = ch (start s i k) ((ds m).getD k 0)
    · left
      refine ⟨rfl, list_ext_getD hsg (sig_length s i m) fun k hk => ?_, hp⟩
      rw [hall k hk, sig, range_getD _ _ _ _ hk]
    · right
      obtain ⟨k, hk⟩ := Classical.not_forall.1 hall
      obtain ⟨hk18, hne⟩ := Classical.not_imp.1 hk
      have hd := ds_getD_le m k
      have hk' : ch (sg.getD k ⟨#[]⟩) (15 - (ds m).getD k 0) = ch (start s i k) 15 := by
        have this : (ends m sg).getD k ⟨#[]⟩ = (fins s i).getD k ⟨#[]⟩ := by rw [he]
        rwa [ends, fins, range_getD _ _ _ _ hk18, range_getD _ _ _ _ hk18] at this
      have e15 : ch (start s i k) 15 = ch (ch (start s i k) ((ds m).getD k 0)) (15 - (ds m).getD k 0) := by
        rw [ch_add]
        congr 1
        omega
      rw [e15] at hk'
      have hsw : ∀ {A B : List ByteArray}, Shown (A ++ B) → Shown (B ++ A) := fun h => h.mono fun x hx => by rcases List.mem_append.1 hx with h | h; exact List.mem_append_right _ h; exact List.mem_append_left _ h
      rcases ch_back (A := checked m i sg pt) (B := made s pt.length 15) _ hk' (fun j hj => checked_chain hk18 (by omega)) (fun j hj => by rw [ch_add]; exact made_chain hi hk18 (by omega)) with e | e
      · exact absurd e hne
      · exact hsw e
  · exact .inr hs

/-- P3.4. -/
theorem binds {s m o : ByteArray} {h i : Nat} (hi : i < 2 ^ h) (hne : Dg.sum m.data.toList ≠ Dg.sum o.data.toList) (hu : up (2 ^ h) i (leaf (dg (ends o (sig s i m)))) (path (keys s h) i) = root (keys s h)) :
    Shown (made s h 30 ++ checked o i (sig s i m) (path (keys s h) i)) := by
  have hpl : (path (keys s h) i).length = h := by rw [path_length _ _ _ (Nat.le_refl _) (by rw [keys_length]; exact hi), keys_length, len_pow h i hi]
  have key := accepted (s := s) (m := o) (h := h) (i := i) (n := 30) (sg := sig s i m) (pt := path (keys s h) i) (by rw [hpl]; exact hi) (by rw [hpl]; exact hu)
  rcases key with ⟨_, he, _⟩ | hs
  · obtain ⟨k, hk18, hlt⟩ := winternitz hne
    have hd := ds_getD_le m k
    have hk' : ch (start s i k) ((ds m).getD k 0 + (15 - (ds o).getD k 0)) = ch (start s i k) 15 := by
      have this : (ends o (sig s i m)).getD k ⟨#[]⟩ = (fins s i).getD k ⟨#[]⟩ := by rw [he]
      rwa [ends_other, fins, range_getD _ _ _ _ hk18, range_getD _ _ _ _ hk18] at this
    rw [show (ds m).getD k 0 + (15 - (ds o).getD k 0) = 15 + ((ds m).getD k 0 - (ds o).getD k 0) by omega] at hk'
    have := circle_shown (A := made s h 30) (by omega) (by omega) hk' (made_start hi hk18) (fun j hj => made_chain hi hk18 hj)
    exact this.mono fun x hx => List.mem_append_left _ hx
  · exact hs

/-- P3.5. -/
theorem secrets {s o m : ByteArray} {h i : Nat} (hi : i < 2 ^ h) (hne : s ≠ o) (hu : up (2 ^ h) i (leaf (dg (ends m (sig s i m)))) (path (keys s h) i) = root (keys o h)) :
    Shown (made s h 15 ++ made o h 15) := by
  have hl := keys_length s h
  have hi' : i < (keys s h).length := by rw [hl]; exact hi
  have hup := up_path _ (keys s h) i (Nat.le_refl _) hi'
  rw [hl] at hup
  rw [ends_sig] at hu
  have hk : (keys s h)[i] = dg (fins s i) := keys_get s h i hi
  rw [hk] at hup
  have hr : root (keys s h) = root (keys o h) := hup.symm.trans hu
  rcases roots_bind _ (keys s h) (keys o h) (Nat.le_refl _) (by rw [hl, keys_length]) hr with e | e
  · have e2 : key s i = key o i := by
      have h1 := keys_get s h i hi
      have h2 := keys_get o h i hi
      rw [← h1, ← h2]
      simp only [e]
    rcases eq_or_shown (a := fins s i) (b := fins o i) e2 (made_fins (n := 15) hi) (made_fins (n := 15) hi) with e3 | e3
    · have h0 : ch (start s i 0) 15 = ch (start o i 0) 15 := by
        have this : (fins s i).getD 0 ⟨#[]⟩ = (fins o i).getD 0 ⟨#[]⟩ := by rw [e3]
        rwa [fins, fins, range_getD _ _ _ _ (by omega), range_getD _ _ _ _ (by omega)] at this
      rcases ch_back (A := made s h 15) (B := made o h 15) 15 h0 (fun j hj => made_chain hi (by omega) (by omega)) (fun j hj => made_chain hi (by omega) (by omega)) with e4 | e4
      · rcases eq_or_shown (a := [s, dec i, dec 0]) (b := [o, dec i, dec 0]) e4 (made_start (n := 15) hi (by omega)) (made_start (n := 15) hi (by omega)) with e5 | e5
        · simp at e5
          exact absurd e5 hne
        · exact e5
      · exact e4
    · exact e3
  · exact e.sub made_texts made_texts

theorem dec_ne {i j : Nat} (h : i ≠ j) : dec i ≠ dec j := fun e => h (dec_inj (by
  have := congrArg (fun b : ByteArray => b.data.toList) e
  simpa [dec] using this))

/-- The seals of one message by two keys of a secret: different texts, or two texts with one digest are shown. -/
theorem other_index {s m : ByteArray} {h n i j : Nat} (hn : 15 ≤ n) (hi : i < 2 ^ h) (hj : j < 2 ^ h) (hne : i ≠ j) (he : sig s i m = sig s j m) : Shown (made s h n) := by
  have hA : Shown (made s h n ++ made s h n) → Shown (made s h n) := fun h => h.mono fun x hx => by rcases List.mem_append.1 hx with h | h <;> exact h
  have hd := ds_getD_le m 0
  have h0 : ch (start s i 0) ((ds m).getD 0 0) = ch (start s j 0) ((ds m).getD 0 0) := by
    have this : (sig s i m).getD 0 ⟨#[]⟩ = (sig s j m).getD 0 ⟨#[]⟩ := by rw [he]
    rwa [sig, sig, range_getD _ _ _ _ (by omega), range_getD _ _ _ _ (by omega)] at this
  rcases ch_back (A := made s h n) (B := made s h n) _ h0 (fun q hq => made_chain hi (by omega) (by omega)) (fun q hq => made_chain hj (by omega) (by omega)) with e | e
  · rcases eq_or_shown (a := [s, dec i, dec 0]) (b := [s, dec j, dec 0]) e (made_start (n := n) hi (by omega)) (made_start (n := n) hj (by omega)) with e1 | e1
    · simp at e1
      exact absurd e1 (dec_ne hne)
    · exact hA e1
  · exact hA e

/-- P3.2: one's own seal is accepted. -/
theorem verifies {s m : ByteArray} {h i : Nat} (hi : i < 2 ^ h) : up (2 ^ h) i (leaf (dg (ends m (sig s i m)))) (path (keys s h) i) = root (keys s h) ∧ (path (keys s h) i).length = h := by
  have hl := keys_length s h
  have hi' : i < (keys s h).length := by rw [hl]; exact hi
  have hup := up_path _ (keys s h) i (Nat.le_refl _) hi'
  have hk : (keys s h)[i] = dg (fins s i) := keys_get s h i hi
  rw [hk, hl] at hup
  rw [ends_sig]
  exact ⟨hup, by rw [path_length _ _ _ (Nat.le_refl _) hi', hl, len_pow h i hi]⟩
end Go.Proofs.YtdlmbpoihnifiaaDoor.Se
