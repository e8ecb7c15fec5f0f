/- Own work: contracts of the program's functions, part A1. -/


/- Plain facts on numbers written with digits of 32 bits: no program. -/
namespace Go.Proofs.YtceoeiojoffnnaaGreatDoor
set_option linter.unusedVariables false
set_option linter.unusedSimpArgs false

def B : Nat := 4294967296
theorem B_pos : 0 < B := by unfold B; omega
theorem B_eq : B = 4294967296 := rfl

/-- the number of the first n digits f 0, f 1, .. -/
def V (f : Nat → Nat) : Nat → Nat
  | 0 => 0
  | n + 1 => V f n + f n * B ^ n

/-- the digit i of x -/
def dg (x i : Nat) : Nat := x / B ^ i % B

theorem Bpow_pos (n : Nat) : 0 < B ^ n := Nat.pow_pos B_pos
theorem Bpow_succ (n : Nat) : B ^ (n + 1) = B ^ n * B := Nat.pow_succ ..
theorem dg_lt (x i : Nat) : dg x i < B := Nat.mod_lt _ B_pos

theorem V_lt {f : Nat → Nat} {n : Nat} (h : ∀ i, i < n → f i < B) : V f n < B ^ n := by
  induction n with
  | zero => simp [V]
  | succ n ih =>
    have h1 := ih (fun i hi => h i (by omega))
    have h2 := h n (by omega)
    rw [V, Bpow_succ]
    have : f n * B ^ n + B ^ n ≤ B ^ n * B := by
      have : (f n + 1) * B ^ n ≤ B * B ^ n := Nat.mul_le_mul_right _ h2
      rw [Nat.add_mul, Nat.one_mul, Nat.mul_comm B] at this
      exact this
    omega

theorem V_congr {f g : Nat → Nat} {n : Nat} (h : ∀ i, i < n → f i = g i) : V f n = V g n := by
  induction n with
  | zero => rfl
  | succ n ih => rw [V, V, ih (fun i hi => h i (by omega)), h n (by omega)]

theorem V_dg (x n : Nat) : V (dg x) n = x % B ^ n := by
  induction n with
  | zero => simp [V, Nat.mod_one]
  | succ n ih =>
    rw [V, ih, Bpow_succ, dg]
    have := Nat.mod_mul (a := B ^ n) (b := B) (x := x)
    rw [this, Nat.mul_comm]

theorem V_div {f : Nat → Nat} {n : Nat} (h : ∀ i, i < n → f i < B) (k : Nat) (hk : k ≤ n) : V f n % B ^ k = V f k := by
  induction n with
  | zero => obtain rfl : k = 0 := by omega
            simp [V, Nat.mod_one]
  | succ n ih =>
    by_cases hk' : k = n + 1
    · subst hk'
      exact Nat.mod_eq_of_lt (V_lt h)
    · have h1 := ih (fun i hi => h i (by omega)) (by omega)
      rw [V, ← h1]
      have : B ^ n = B ^ k * B ^ (n - k) := by rw [← Nat.pow_add]; congr 1; omega
      rw [this, ← Nat.mul_assoc, Nat.mul_comm (f n), Nat.mul_assoc, Nat.add_mul_mod_self_left]

theorem dg_V {f : Nat → Nat} {n : Nat} (h : ∀ i, i < n → f i < B) (i : Nat) (hi : i < n) : dg (V f n) i = f i := by
  have h1 := V_div h (i + 1) (by omega)
  have h2 := V_lt (f := f) (n := i) (fun j hj => h j (by omega))
  have : dg (V f n) i = V f n % B ^ (i + 1) / B ^ i := by
    rw [Bpow_succ, Nat.mod_mul_right_div_self, dg]
  rw [this, h1, V, Nat.add_mul_div_right _ _ (Bpow_pos i), Nat.div_eq_of_lt h2]
  omega

theorem dg_of_lt {x n : Nat} (h : x < B ^ n) : dg x n = 0 := by
  rw [dg, Nat.div_eq_of_lt h]; rfl

/-- how many digits x has -/
def dlen (x : Nat) : Nat := if h : x = 0 then 0 else dlen (x / B) + 1
termination_by x
decreasing_by exact Nat.div_lt_self (by omega) (by unfold B; omega)

theorem dlen_zero : dlen 0 = 0 := by rw [dlen]; simp
theorem dlen_pos {x : Nat} (h : x ≠ 0) : dlen x = dlen (x / B) + 1 := by rw [dlen]; simp [h]

theorem dlen_le (n : Nat) : ∀ x, dlen x ≤ n ↔ x < B ^ n := by
  induction n with
  | zero =>
    intro x
    by_cases h : x = 0
    · subst h; simp [dlen_zero]
    · rw [dlen_pos h]; simp; omega
  | succ n ih =>
    intro x
    by_cases h : x = 0
    · subst h; simp [dlen_zero]; exact Bpow_pos _
    · rw [dlen_pos h, Nat.add_le_add_iff_right, ih, Bpow_succ, Nat.div_lt_iff_lt_mul B_pos]

theorem lt_dlen (x : Nat) : x < B ^ dlen x := (dlen_le _ x).1 (Nat.le_refl _)
theorem le_dlen {x : Nat} (h : x ≠ 0) : B ^ (dlen x - 1) ≤ x := by
  have h1 := dlen_pos h
  have h2 := dlen_le (dlen x - 1) x
  exact Nat.le_of_not_lt fun h3 => by have := h2.2 h3; omega
theorem dlen_eq_zero {x : Nat} : dlen x = 0 ↔ x = 0 := by
  have := dlen_le 0 x
  simp at this
  omega
theorem dlen_eq {x n : Nat} (h1 : x < B ^ n) (h2 : n = 0 ∨ B ^ (n - 1) ≤ x) : dlen x = n := by
  have h3 := (dlen_le n x).2 h1
  rcases h2 with h2 | h2
  · omega
  · have h4 := dlen_le (n - 1) x
    have : ¬ dlen x ≤ n - 1 := fun h5 => by have := h4.1 h5; omega
    omega
theorem dlen_mono {x y : Nat} (h : x ≤ y) : dlen x ≤ dlen y := (dlen_le _ _).2 (Nat.lt_of_le_of_lt h (lt_dlen y))
theorem dg_top {x : Nat} (h : x ≠ 0) : dg x (dlen x - 1) ≠ 0 := by
  have h1 := le_dlen h
  have h2 := lt_dlen x
  have h3 : dlen x = (dlen x - 1) + 1 := by have := dlen_pos h; omega
  rw [h3, Bpow_succ] at h2
  unfold dg
  have h4 : 0 < B ^ (dlen x - 1) := Bpow_pos _
  generalize B ^ (dlen x - 1) = p at *
  have h5 : 0 < x / p := Nat.div_pos h1 h4
  have h6 : x / p < B := (Nat.div_lt_iff_lt_mul h4).2 (by rw [Nat.mul_comm]; exact h2)
  rw [Nat.mod_eq_of_lt h6]; omega
theorem dg_past {x i : Nat} (h : dlen x ≤ i) : dg x i = 0 := dg_of_lt ((dlen_le i x).1 h)
theorem V_all (x : Nat) : V (dg x) (dlen x) = x := by rw [V_dg, Nat.mod_eq_of_lt (lt_dlen x)]
theorem dg_zero (x : Nat) : dg x 0 = x % B := by simp [dg]

/-- the digits of x / B^k -/
theorem dg_div (x k i : Nat) : dg (x / B ^ k) i = dg x (k + i) := by
  rw [dg, dg, Nat.div_div_eq_div_mul, ← Nat.pow_add]

/-- cut noughts at the high end do not count -/
theorem V_cut {f : Nat → Nat} {n : Nat} (k : Nat) (hk : k ≤ n) (h : ∀ i, k ≤ i → i < n → f i = 0) : V f n = V f k := by
  induction n with
  | zero => obtain rfl : k = 0 := by omega
            rfl
  | succ n ih =>
    by_cases hk' : k = n + 1
    · rw [hk']
    · rw [V, ih (by omega) (fun i h1 h2 => h i h1 (by omega)), h n (by omega) (by omega)]; simp

/-- digits without a nought at the high end are the number's own -/
theorem dlen_V {f : Nat → Nat} {n : Nat} (h : ∀ i, i < n → f i < B) (ht : n = 0 ∨ f (n - 1) ≠ 0) : dlen (V f n) = n := by
  refine dlen_eq (V_lt h) ?_
  rcases ht with ht | ht
  · exact .inl ht
  · by_cases hn : n = 0
    · exact .inl hn
    · right
      obtain ⟨m, rfl⟩ : ∃ m, n = m + 1 := ⟨n - 1, by omega⟩
      rw [Nat.add_sub_cancel] at *
      rw [V]
      have : 1 * B ^ m ≤ f m * B ^ m := Nat.mul_le_mul_right _ (by omega)
      omega

theorem V_zero (n : Nat) : V (fun _ => 0) n = 0 := by
  induction n with
  | zero => rfl
  | succ n ih => rw [V, ih]; simp

/-- one digit set behind the first n -/
theorem V_set (f : Nat → Nat) (n d : Nat) : V (fun j => if j = n then d else f j) (n + 1) = V f n + d * B ^ n := by
  rw [V, V_congr (g := f) (fun i hi => by simp; omega)]; simp

theorem mod_succ (x i : Nat) : x % B ^ (i + 1) = x % B ^ i + B ^ i * dg x i := by
  rw [Bpow_succ, Nat.mod_mul, dg]

theorem div_split (x i : Nat) : x = x % B ^ i + B ^ i * (x / B ^ i) := (Nat.mod_add_div x (B ^ i)).symm

/-- the carry of a sum -/
def addc (x y i : Nat) : Nat := (x % B ^ i + y % B ^ i) / B ^ i

theorem addc_zero (x y : Nat) : addc x y 0 = 0 := by simp [addc, Nat.mod_one]
theorem addc_le (x y i : Nat) : addc x y i ≤ 1 := by
  have h1 := Nat.mod_lt x (Bpow_pos i)
  have h2 := Nat.mod_lt y (Bpow_pos i)
  unfold addc
  have : (x % B ^ i + y % B ^ i) / B ^ i < 2 := (Nat.div_lt_iff_lt_mul (Bpow_pos i)).2 (by omega)
  omega
theorem addc_succ (x y i : Nat) : addc x y (i + 1) = (addc x y i + dg x i + dg y i) / B := by
  unfold addc
  rw [mod_succ, mod_succ, Bpow_succ, ← Nat.div_div_eq_div_mul]
  have : x % B ^ i + B ^ i * dg x i + (y % B ^ i + B ^ i * dg y i) = (x % B ^ i + y % B ^ i) + B ^ i * (dg x i + dg y i) := by rw [Nat.mul_add]; omega
  rw [this, Nat.add_mul_div_left _ _ (Bpow_pos i), Nat.add_assoc]
theorem dg_add (x y i : Nat) : dg (x + y) i = (addc x y i + dg x i + dg y i) % B := by
  have h : (x + y) / B ^ i = addc x y i + (x / B ^ i + y / B ^ i) := by
    have h1 := div_split x i
    have h2 := div_split y i
    unfold addc
    have : x + y = (x % B ^ i + y % B ^ i) + B ^ i * (x / B ^ i + y / B ^ i) := by rw [Nat.mul_add]; omega
    conv => lhs; rw [this]
    rw [Nat.add_mul_div_left _ _ (Bpow_pos i)]
  unfold dg
  rw [h]
  generalize x / B ^ i = p
  generalize y / B ^ i = q
  generalize addc x y i = c
  unfold B
  omega

/-- the carry of a product with one digit -/
def mulc (x t i : Nat) : Nat := (x % B ^ i * t) / B ^ i
theorem mulc_zero (x t : Nat) : mulc x t 0 = 0 := by simp [mulc, Nat.mod_one]
theorem mulc_le (x t i : Nat) : mulc x t i ≤ t := by
  have h1 := Nat.mod_lt x (Bpow_pos i)
  unfold mulc
  apply Nat.div_le_of_le_mul
  exact Nat.mul_le_mul_right _ (Nat.le_of_lt h1)
theorem mulc_lt {x t i : Nat} (ht : 0 < t) : mulc x t i < t := by
  have h1 := Nat.mod_lt x (Bpow_pos i)
  unfold mulc
  rw [Nat.div_lt_iff_lt_mul (Bpow_pos i), Nat.mul_comm t]
  exact Nat.mul_lt_mul_of_pos_right h1 ht
theorem mulc_succ (x t i : Nat) : mulc x t (i + 1) = (mulc x t i + dg x i * t) / B := by
  unfold mulc
  rw [mod_succ, Bpow_succ, ← Nat.div_div_eq_div_mul, Nat.add_mul, Nat.mul_assoc, Nat.add_mul_div_left _ _ (Bpow_pos i)]
theorem dg_mul (x t i : Nat) : dg (x * t) i = (mulc x t i + dg x i * t) % B := by
  have h : x * t / B ^ i = mulc x t i + x / B ^ i * t := by
    unfold mulc
    conv => lhs; rw [div_split x i]
    rw [Nat.add_mul, Nat.mul_assoc, Nat.add_mul_div_left _ _ (Bpow_pos i)]
  unfold dg
  rw [h, Nat.add_mod, Nat.mul_mod]
  conv => rhs; rw [Nat.add_mod, Nat.mul_mod, Nat.mod_mod]

/-- the borrow of a difference -/
def subb (x y i : Nat) : Nat := if x % B ^ i < y % B ^ i then 1 else 0
theorem subb_zero (x y : Nat) : subb x y 0 = 0 := by simp [subb, Nat.mod_one]
theorem subb_le (x y i : Nat) : subb x y i ≤ 1 := by unfold subb; split <;> omega
theorem subb_succ (x y i : Nat) : subb x y (i + 1) = if dg x i < dg y i + subb x y i then 1 else 0 := by
  unfold subb
  rw [mod_succ, mod_succ]
  have h1 := Nat.mod_lt x (Bpow_pos i)
  have h2 := Nat.mod_lt y (Bpow_pos i)
  generalize x % B ^ i = p at *
  generalize y % B ^ i = q at *
  generalize dg x i = c
  generalize dg y i = d
  generalize B ^ i = m at *
  rcases Nat.lt_trichotomy c d with h | h | h
  · have : m * c + m ≤ m * d := by have := Nat.mul_le_mul_left m (show c + 1 ≤ d from h); rw [Nat.mul_add, Nat.mul_one] at this; exact this
    rw [if_pos (by omega), if_pos (by omega)]
  · subst h
    by_cases h3 : p < q
    · rw [if_pos (by omega), if_pos h3, if_pos (by omega)]
    · rw [if_neg (by omega), if_neg h3, if_neg (by omega)]
  · have : m * d + m ≤ m * c := by have := Nat.mul_le_mul_left m (show d + 1 ≤ c from h); rw [Nat.mul_add, Nat.mul_one] at this; exact this
    rw [if_neg (by omega)]
    by_cases h3 : p < q
    · rw [if_pos h3, if_neg (by omega)]
    · rw [if_neg h3, if_neg (by omega)]
/-- x - y, round by B^n -/
def wsub (x y n : Nat) : Nat := (x + B ^ n - y % B ^ n) % B ^ n
theorem dg_mod {x n i : Nat} (h : i < n) : dg (x % B ^ n) i = dg x i := by
  have h0 : B ^ n = B ^ (i + 1) * B ^ (n - (i + 1)) := by rw [← Nat.pow_add]; congr 1; omega
  have h1 : x % B ^ n % B ^ (i + 1) = x % B ^ (i + 1) := by rw [h0]; exact Nat.mod_mul_right_mod ..
  have h2 := mod_succ (x % B ^ n) i
  have h3 := mod_succ x i
  have h4 : x % B ^ n % B ^ i = x % B ^ i := by
    have h0 : B ^ n = B ^ i * B ^ (n - i) := by rw [← Nat.pow_add]; congr 1; omega
    rw [h0]; exact Nat.mod_mul_right_mod ..
  rw [h1, h4, h3] at h2
  have := Nat.eq_of_mul_eq_mul_left (Bpow_pos i) (Nat.add_left_cancel h2)
  exact this.symm
theorem dg_wsub {x y n i : Nat} (h : i < n) : dg (wsub x y n) i = (dg x i + B + B - dg y i - subb x y i) % B := by
  -- z + y = x (mod B^n): by the digits of a sum
  unfold wsub
  rw [dg_mod h]
  have hy := Nat.mod_lt y (Bpow_pos n)
  generalize hz : x + B ^ n - y % B ^ n = z
  have hs : z + y % B ^ n = x + B ^ n := by omega
  have hp : B ^ n = B ^ (i + 1) * B ^ (n - (i + 1)) := by rw [← Nat.pow_add]; congr 1; omega
  have e1 : dg (x + B ^ n) i = dg x i := by
    have : (x + B ^ n) % B ^ (i + 1) = x % B ^ (i + 1) := by rw [hp, Nat.add_mul_mod_self_left]
    have h2 := mod_succ (x + B ^ n) i
    have h3 := mod_succ x i
    have h4 : (x + B ^ n) % B ^ i = x % B ^ i := by
      have h0 : B ^ n = B ^ i * B ^ (n - i) := by rw [← Nat.pow_add]; congr 1; omega
      rw [h0, Nat.add_mul_mod_self_left]
    rw [this, h4, h3] at h2
    exact (Nat.eq_of_mul_eq_mul_left (Bpow_pos i) (Nat.add_left_cancel h2)).symm
  have e2 := dg_add z (y % B ^ n) i
  rw [hs, e1, dg_mod h] at e2
  have e3 : addc z (y % B ^ n) i = subb x y i := by
    have h0 : B ^ n = B ^ i * B ^ (n - i) := by rw [← Nat.pow_add]; congr 1; omega
    have h4 : (x + B ^ n) % B ^ i = x % B ^ i := by rw [h0, Nat.add_mul_mod_self_left]
    have h5 : y % B ^ n % B ^ i = y % B ^ i := by rw [h0]; exact Nat.mod_mul_right_mod ..
    unfold addc subb
    rw [h5]
    have h6 := Nat.mod_lt z (Bpow_pos i)
    have h7 := Nat.mod_lt y (Bpow_pos i)
    have h8 := Nat.mod_lt x (Bpow_pos i)
    have h9 : (z % B ^ i + y % B ^ i) % B ^ i = x % B ^ i := by
      rw [← h5, ← Nat.add_mod, hs, h4]
    generalize z % B ^ i = a at *
    generalize y % B ^ i = b at *
    generalize x % B ^ i = c at *
    generalize B ^ i = m at *
    by_cases hlt : a + b < m
    · rw [Nat.mod_eq_of_lt hlt] at h9
      rw [Nat.div_eq_of_lt hlt, if_neg (by omega)]
    · have : (a + b) / m = 1 := by
        rw [Nat.div_eq_iff (by omega)]; omega
      rw [this]
      have : (a + b) % m = a + b - m := by
        rw [Nat.mod_eq_sub_mod (by omega), Nat.mod_eq_of_lt (by omega)]
      rw [if_pos (by omega)]
  rw [e3] at e2
  have b1 := dg_lt z i
  have b2 := dg_lt y i
  have b3 := dg_lt x i
  have b4 := subb_le x y i
  rw [e2]
  generalize dg z i = p at *
  generalize dg y i = q at *
  generalize subb x y i = s at *
  clear e2 e3 e1
  unfold B at *
  omega
theorem wsub_of_le {x y n : Nat} (hx : x < B ^ n) (h : y ≤ x) : wsub x y n = x - y := by
  unfold wsub
  rw [Nat.mod_eq_of_lt (show y < B ^ n by omega), show x + B ^ n - y = (x - y) + B ^ n by omega, Nat.add_mod_right, Nat.mod_eq_of_lt (by omega)]
theorem wsub_lt (x y n : Nat) : wsub x y n < B ^ n := Nat.mod_lt _ (Bpow_pos n)

end Go.Proofs.YtceoeiojoffnnaaGreatDoor

/- Plain facts: shifts, orders, lengths, noughts at the end, quotients: no program. -/
namespace Go.Proofs.YtceoeiojoffnnaaGreatDoor
set_option linter.unusedVariables false
set_option linter.unusedSimpArgs false

theorem B_two : B = 2 ^ 32 := rfl

theorem dg_shl_low {z whole j : Nat} (h : j < whole) : dg (z * B ^ whole) j = 0 := by
  have h0 : B ^ whole = B ^ (whole - (j + 1)) * B * B ^ j := by rw [← Bpow_succ, ← Nat.pow_add]; congr 1; omega
  unfold dg
  rw [h0, ← Nat.mul_assoc, ← Nat.mul_assoc, Nat.mul_div_cancel _ (Bpow_pos j), Nat.mul_mod_left]
theorem dg_shl (z whole i : Nat) : dg (z * B ^ whole) (whole + i) = dg z i := by
  unfold dg
  rw [Nat.pow_add, ← Nat.div_div_eq_div_mul, Nat.mul_div_cancel _ (Bpow_pos whole)]

theorem two_split {k : Nat} : 2 ^ k = B ^ (k / 32) * 2 ^ (k % 32) := by
  have : k = 32 * (k / 32) + k % 32 := by omega
  conv => lhs; rw [this]
  rw [Nat.pow_add, Nat.pow_mul]; rfl

theorem two_le {p : Nat} (hp : p ≤ 32) : 2 ^ p * 2 ^ (32 - p) = B := by rw [← Nat.pow_add, B_two]; congr 1; omega

theorem dg_shr {x p i : Nat} (hp : p < 32) : dg (x / 2 ^ p) i = ((dg x i + dg x (i + 1) * B) / 2 ^ p) % B := by
  have h2 : 0 < 2 ^ p := Nat.pow_pos (by omega)
  have hq := two_le (p := p) (by omega)
  unfold dg
  rw [Bpow_succ, ← Nat.div_div_eq_div_mul, Nat.div_div_eq_div_mul, Nat.mul_comm (2 ^ p), ← Nat.div_div_eq_div_mul]
  generalize x / B ^ i = y
  have e : y = (y % B + (y / B % B) * B) + 2 ^ p * (2 ^ (32 - p) * B * (y / B / B)) := by
    have h1 := Nat.mod_add_div y B
    have h3 := Nat.mod_add_div (y / B) B
    have h4 : 2 ^ p * (2 ^ (32 - p) * B * (y / B / B)) = B * (B * (y / B / B)) := by rw [← Nat.mul_assoc, ← Nat.mul_assoc, hq, Nat.mul_assoc]
    rw [h4]
    generalize y / B / B = r at *
    have h5 : B * (y / B) = B * (y / B % B) + B * (B * r) := by rw [← Nat.mul_add, h3]
    rw [Nat.mul_comm (y / B % B)]
    omega
  conv => lhs; rw [e]
  rw [Nat.add_mul_div_left _ _ h2, Nat.mul_assoc, Nat.mul_comm (2 ^ (32 - p)), Nat.mul_assoc, Nat.add_mul_mod_self_left]

/-- the order, digit by digit from above -/
theorem top_split (x i : Nat) : x / B ^ i = x / B ^ (i + 1) * B + dg x i := by
  unfold dg
  rw [Bpow_succ, ← Nat.div_div_eq_div_mul]
  have := Nat.mod_add_div (x / B ^ i) B
  rw [Nat.mul_comm B] at this
  omega
theorem lt_of_top {x y i : Nat} (h : x / B ^ (i + 1) = y / B ^ (i + 1)) (hlt : dg x i < dg y i) : x < y := by
  have h1 := top_split x i
  have h2 := top_split y i
  rw [h] at h1
  exact Nat.lt_of_not_le fun hle => by
    have := Nat.div_le_div_right (c := B ^ i) hle
    omega
theorem top_step {x y i : Nat} (h : x / B ^ (i + 1) = y / B ^ (i + 1)) (he : dg x i = dg y i) : x / B ^ i = y / B ^ i := by
  rw [top_split x i, top_split y i, h, he]
theorem lt_of_dlen {x y : Nat} (h : dlen x < dlen y) : x < y := Nat.lt_of_not_le fun hle => by have := dlen_mono hle; omega

/-- how many binary digits -/
def bl (x : Nat) : Nat := if x = 0 then 0 else Nat.log2 x + 1
theorem bl_le (x n : Nat) : bl x ≤ n ↔ x < 2 ^ n := by
  unfold bl
  by_cases h : x = 0
  · subst h; simp; exact Nat.pow_pos (by omega)
  · rw [if_neg h]
    have := Nat.log2_lt (n := x) (k := n) h
    omega
theorem lt_bl (x : Nat) : x < 2 ^ bl x := (bl_le x _).1 (Nat.le_refl _)
theorem bl_eq {x n : Nat} (h1 : x < 2 ^ n) (h2 : n = 0 ∨ 2 ^ (n - 1) ≤ x) : bl x = n := by
  have h3 := (bl_le x n).2 h1
  rcases h2 with h2 | h2
  · omega
  · have h4 := bl_le x (n - 1)
    have : ¬ bl x ≤ n - 1 := fun h5 => by have := h4.1 h5; omega
    omega
theorem le_bl {x : Nat} (h : x ≠ 0) : 2 ^ (bl x - 1) ≤ x := by
  have h1 : bl x = Nat.log2 x + 1 := by unfold bl; rw [if_neg h]
  have h2 := bl_le x (bl x - 1)
  exact Nat.le_of_not_lt fun h3 => by have := h2.2 h3; omega
theorem bl_top {x : Nat} (h : x ≠ 0) : bl x = 32 * (dlen x - 1) + bl (dg x (dlen x - 1)) := by
  have h1 := dg_top h
  have h2 := lt_dlen x
  have h3 : dlen x = (dlen x - 1) + 1 := by have := dlen_pos h; omega
  have h4 := mod_succ x (dlen x - 1)
  rw [← h3, Nat.mod_eq_of_lt h2] at h4
  have h5 := Nat.mod_lt x (Bpow_pos (dlen x - 1))
  have hb : B ^ (dlen x - 1) = 2 ^ (32 * (dlen x - 1)) := by rw [Nat.pow_mul]; rfl
  generalize dg x (dlen x - 1) = d at *
  generalize dlen x - 1 = n at *
  have l1 := lt_bl d
  have l2 := le_bl h1
  have l3 : 0 < bl d := Nat.pos_of_ne_zero fun h0 => by rw [h0] at l1; simp at l1; omega
  refine bl_eq ?_ (.inr ?_)
  · rw [Nat.pow_add, ← hb]
    have : B ^ n * d + B ^ n ≤ B ^ n * 2 ^ bl d := by
      have := Nat.mul_le_mul_left (B ^ n) (show d + 1 ≤ 2 ^ bl d from l1)
      rw [Nat.mul_add, Nat.mul_one] at this; exact this
    omega
  · rw [show 32 * n + bl d - 1 = 32 * n + (bl d - 1) by omega, Nat.pow_add, ← hb]
    have := Nat.mul_le_mul_left (B ^ n) l2
    generalize x % B ^ n = rr at *
    omega

/-- how many binary noughts at the low end -/
def tz (x : Nat) : Nat := if h : x = 0 then 0 else if x % 2 = 1 then 0 else tz (x / 2) + 1
termination_by x
decreasing_by omega
theorem tz_odd {x : Nat} (h : x % 2 = 1) : tz x = 0 := by rw [tz]; rw [dif_neg (by omega), if_pos h]
theorem tz_even {x : Nat} (h0 : x ≠ 0) (h : x % 2 = 0) : tz x = tz (x / 2) + 1 := by rw [tz]; rw [dif_neg h0, if_neg (by omega)]
theorem tz_pow (k : Nat) : ∀ m, m % 2 = 1 → tz (2 ^ k * m) = k := by
  induction k with
  | zero => intro m hm; simp [tz_odd hm]
  | succ k ih =>
    intro m hm
    have e : 2 ^ (k + 1) * m = 2 * (2 ^ k * m) := by rw [Nat.pow_succ]; grind
    have hp : 0 < 2 ^ k * m := Nat.mul_pos (Nat.pow_pos (by omega)) (by omega)
    rw [e, tz_even (by omega) (by omega), Nat.mul_div_cancel_left _ (by omega), ih m hm]
theorem tz_spec : ∀ n x, x ≤ n → x ≠ 0 → 2 ^ tz x * (x / 2 ^ tz x) = x ∧ x / 2 ^ tz x % 2 = 1 := by
  intro n
  induction n with
  | zero => intro x h1 h2; omega
  | succ n ih =>
    intro x h1 h2
    by_cases h : x % 2 = 1
    · rw [tz_odd h]; simp; exact h
    · rw [tz_even h2 (by omega)]
      obtain ⟨a, b⟩ := ih (x / 2) (by omega) (by omega)
      rw [Nat.pow_succ, Nat.mul_comm (2 ^ _) 2, ← Nat.div_div_eq_div_mul]
      refine ⟨?_, b⟩
      rw [Nat.mul_assoc, a]; omega
theorem tz_digit {x i : Nat} (hl : x % B ^ i = 0) (hd : dg x i ≠ 0) : tz x = 32 * i + tz (dg x i) := by
  obtain ⟨a, b⟩ := tz_spec _ (dg x i) (Nat.le_refl _) hd
  have hlt := dg_lt x i
  have e := div_split x i
  have e2 := top_split x i
  rw [hl, Nat.zero_add] at e
  generalize hdd : dg x i = d at *
  have l1 : tz d < 32 := by
    exact Nat.lt_of_not_le fun h => by
      have : 2 ^ 32 ≤ 2 ^ tz d := Nat.pow_le_pow_right (by omega) h
      have h3 : 0 < d / 2 ^ tz d := Nat.pos_of_ne_zero fun h0 => by rw [h0] at b; simp at b
      have := Nat.mul_le_mul_left (2 ^ tz d) h3
      unfold B at hlt
      omega
  have hq := two_le (p := tz d) (by omega)
  have hb : B ^ i = 2 ^ (32 * i) := by rw [Nat.pow_mul]; rfl
  generalize tz d = t at *
  generalize d / 2 ^ t = o at *
  generalize x / B ^ (i + 1) = r at *
  have e3 : x = 2 ^ (32 * i + t) * (2 ^ (32 - t) * r + o) := by
    rw [e, e2, Nat.pow_add, hb, ← a, ← hq]; grind
  rw [e3]
  refine tz_pow _ _ ?_
  have : 2 ^ (32 - t) = 2 * 2 ^ (31 - t) := by rw [Nat.mul_comm, ← Nat.pow_succ]; congr 1; omega
  rw [this, Nat.mul_assoc]
  omega

/-- the quotient that a guess from the two highest digits gives is right, or one too great -/
theorem guess_ge {r d q R D m : Nat} (hq : q * d ≤ r) (hR : r < (R + 1) * m) (hD : D * m ≤ d) (hm : 0 < m) : q * D ≤ R := by
  have h1 : q * (D * m) ≤ q * d := Nat.mul_le_mul_left _ hD
  have h2 : q * D * m < (R + 1) * m := by rw [Nat.mul_assoc]; omega
  have := Nat.lt_of_mul_lt_mul_right h2
  omega
theorem guess_le {r d g R D m : Nat} (hg : g * D ≤ R) (hgB : g < B) (hR : R * m ≤ r) (hd : d < (D + 1) * m) (hdd : B * m ≤ d) (hm : 0 < m) : (g - 1) * d ≤ r := by
  by_cases h0 : g = 0
  · subst h0; simp
  have h1 : g * D * m ≤ R * m := Nat.mul_le_mul_right _ hg
  have h2 : g * (d + 1) ≤ g * ((D + 1) * m) := Nat.mul_le_mul_left _ hd
  have h3 : g * ((D + 1) * m) = g * D * m + g * m := by grind
  have h4 : g * m ≤ B * m := Nat.mul_le_mul_right _ (by omega)
  have h5 : g * d = (g - 1) * d + d := by
    have := Nat.add_mul (g - 1) 1 d
    rw [show g - 1 + 1 = g by omega, Nat.one_mul] at this
    exact this
  have h6 : g * (d + 1) = g * d + g := by grind
  omega

end Go.Proofs.YtceoeiojoffnnaaGreatDoor

/- Plain facts: Newton's step for whole square roots: no program. -/
namespace Go.Proofs.YtceoeiojoffnnaaGreatDoor
set_option linter.unusedVariables false
set_option linter.unusedSimpArgs false

/-- the step, upper side -/
theorem newton_lt {a b m : Nat} (hb : 0 < b) (h : b * b + m < 2 * b * (a + 1)) : m < (a + 1) * (a + 1) := by
  refine Nat.lt_of_not_le fun hle => ?_
  -- (b - (a+1))^2 >= 0
  rcases Nat.le_total b (a + 1) with h1 | h1
  · obtain ⟨c, hc⟩ := Nat.exists_eq_add_of_le h1
    rw [hc] at h hle
    have : 2 * b * (b + c) = 2 * (b * b) + 2 * (b * c) := by grind
    have : (b + c) * (b + c) = b * b + 2 * (b * c) + c * c := by grind
    have := Nat.zero_le (c * c)
    omega
  · obtain ⟨c, hc⟩ := Nat.exists_eq_add_of_le h1
    generalize a + 1 = t at *
    subst hc
    have : 2 * (t + c) * t = 2 * (t * t) + 2 * (t * c) := by grind
    have : (t + c) * (t + c) = t * t + 2 * (t * c) + c * c := by grind
    have := Nat.zero_le (c * c)
    omega

/-- the step, lower side: b is within p of the root, p p at most 2 b -/
theorem newton_gt {t b m p : Nat} (hp : p * p ≤ 2 * b) (hlo : b ≤ p ∨ (b - p) * (b - p) < m) (hhi : m < (b + p) * (b + p)) (h : 2 * b * (t + 1) ≤ b * b + m) (hpos : 0 < m) (hpp : 0 < p) : t * t < m := by
  refine Nat.lt_of_not_le fun hle => ?_
  have e0 : 2 * b * (t + 1) = 2 * (b * t) + 2 * b := by grind
  rcases Nat.le_total t b with h1 | h1
  · obtain ⟨c, hc⟩ := Nat.exists_eq_add_of_le h1
    subst hc
    have e1 : (t + c) * (t + c) = t * t + 2 * (t * c) + c * c := by grind
    have e2 : (t + c) * t = t * t + t * c := by grind
    have h2 : 2 * (t + c) ≤ c * c := by omega
    -- c < p
    have h3 : c < p := by
      refine Nat.lt_of_not_le fun hcp => ?_
      rcases hlo with hlo | hlo
      · have : t = 0 := by omega
        subst this
        simp at hle; omega
      · have : (t + c - p) * (t + c - p) ≥ t * t := by
          have : t ≤ t + c - p := by omega
          exact Nat.mul_le_mul this this
        omega
    have : c * c < p * p := Nat.mul_lt_mul_of_lt_of_le h3 (by omega) hpp
    omega
  · obtain ⟨c, hc⟩ := Nat.exists_eq_add_of_le h1
    subst hc
    have e1 : (b + c) * (b + c) = b * b + 2 * (b * c) + c * c := by grind
    have e2 : b * (b + c) = b * b + b * c := by grind
    have e3 : (b + p) * (b + p) = b * b + 2 * (b * p) + p * p := by grind
    have h2 : 2 * b ≤ c * c := by omega
    have h3 : p ≤ c := by
      refine Nat.le_of_not_lt fun hcp => ?_
      have : c * c < p * p := Nat.mul_lt_mul_of_lt_of_le hcp (by omega) hpp
      omega
    have : b * p ≤ b * c := Nat.mul_le_mul_left _ h3
    omega

/-- one step of the loop: e known binary digits become e + k -/
theorem root_step {a e k m : Nat} (he : 4 ^ e ≤ m / 4 ^ k) (hk : k ≤ e + 1) (hk1 : 1 ≤ k) (hlo : (a - 1) * (a - 1) < m / 4 ^ k) (hhi : m / 4 ^ k < (a + 1) * (a + 1)) :
    (a * 2 ^ (k - 1) + m / 2 ^ (k + 1) / a - 1) * (a * 2 ^ (k - 1) + m / 2 ^ (k + 1) / a - 1) < m ∧ m < (a * 2 ^ (k - 1) + m / 2 ^ (k + 1) / a + 1) * (a * 2 ^ (k - 1) + m / 2 ^ (k + 1) / a + 1) := by
  have p4 : 4 ^ k = 2 ^ k * 2 ^ k := by rw [show (4 : Nat) = 2 * 2 from rfl, Nat.mul_pow]
  have p4e : 4 ^ e = 2 ^ e * 2 ^ e := by rw [show (4 : Nat) = 2 * 2 from rfl, Nat.mul_pow]
  have hge : 2 ^ e ≤ a := by
    refine Nat.le_of_not_lt fun hlt => ?_
    have : (a + 1) * (a + 1) ≤ 2 ^ e * 2 ^ e := Nat.mul_le_mul hlt hlt
    omega
  have p2e : 0 < 2 ^ e := Nat.pow_pos (by omega)
  have hkp : 2 ^ k = 2 * 2 ^ (k - 1) := by rw [Nat.mul_comm, ← Nat.pow_succ]; congr 1; omega
  have hkp1 : 2 ^ (k + 1) = 2 * 2 ^ k := by rw [Nat.mul_comm, ← Nat.pow_succ]
  have hke : 2 ^ (k - 1) ≤ 2 ^ e := Nat.pow_le_pow_right (by omega) (by omega)
  have hpp : 0 < 2 ^ (k - 1) := Nat.pow_pos (by omega)
  rw [Nat.div_div_eq_div_mul, hkp1, hkp]
  rw [p4, hkp] at he hlo hhi
  rw [p4e] at he
  clear p4 p4e hkp hkp1
  generalize 2 ^ e = E at *
  generalize 2 ^ (k - 1) = h at *
  have ha : 0 < a := by omega
  -- b = 2 h a
  have hden : 2 * (2 * h) * a = 2 * (2 * h * a) := by grind
  rw [hden]
  have hb0 : 0 < 2 * h * a := Nat.mul_pos (by omega) ha
  have hq1 := Nat.div_add_mod m (2 * (2 * h * a))
  have hq2 := Nat.mod_lt m (show 0 < 2 * (2 * h * a) by omega)
  generalize m / (2 * (2 * h * a)) = q at *
  generalize m % (2 * (2 * h * a)) = r at *
  have hM1 := Nat.div_add_mod m (2 * h * (2 * h))
  have hM2 := Nat.mod_lt m (show 0 < 2 * h * (2 * h) from Nat.mul_pos (by omega) (by omega))
  generalize m / (2 * h * (2 * h)) = M at *
  generalize m % (2 * h * (2 * h)) = s at *
  have hmpos : 0 < m := by
    have : 0 < 2 * h * (2 * h) * M := Nat.mul_pos (Nat.mul_pos (by omega) (by omega)) (by omega)
    omega
  generalize hb : 2 * h * a = b at *
  have ea : 2 * (a * h) = b := by rw [← hb]; grind
  have key : 2 * b * (a * h + q) = b * b + 2 * b * q := by grind
  constructor
  · refine newton_gt (b := b) (p := 2 * h) ?_ ?_ ?_ ?_ hmpos (by omega)
    · rw [← hb]
      have : 2 * h * (2 * h) ≤ 2 * h * (2 * a) := Nat.mul_le_mul_left _ (by omega)
      grind
    · right
      have e1 : b - 2 * h = 2 * h * (a - 1) := by rw [← hb, Nat.mul_sub, Nat.mul_one]
      rw [e1]
      have : 2 * h * (2 * h) * ((a - 1) * (a - 1)) + 2 * h * (2 * h) ≤ 2 * h * (2 * h) * M := by
        have := Nat.mul_le_mul_left (2 * h * (2 * h)) (show (a - 1) * (a - 1) + 1 ≤ M from hlo)
        rw [Nat.mul_add, Nat.mul_one] at this
        exact this
      have e2 : 2 * h * (a - 1) * (2 * h * (a - 1)) = 2 * h * (2 * h) * ((a - 1) * (a - 1)) := by grind
      have : 0 < 2 * h * (2 * h) := Nat.mul_pos (by omega) (by omega)
      omega
    · have : 2 * h * (2 * h) * (M + 1) ≤ 2 * h * (2 * h) * ((a + 1) * (a + 1)) := Nat.mul_le_mul_left _ hhi
      have e2 : (b + 2 * h) * (b + 2 * h) = 2 * h * (2 * h) * ((a + 1) * (a + 1)) := by rw [← hb]; grind
      rw [Nat.mul_add, Nat.mul_one] at this
      omega
    · have hpos : 0 < a * h + q := by have := Nat.mul_pos ha hpp; omega
      rw [show a * h + q - 1 + 1 = a * h + q by omega, key]
      omega
  · refine newton_lt hb0 ?_
    have : 2 * b * (a * h + q + 1) = 2 * b * (a * h + q) + 2 * b := by grind
    omega

end Go.Proofs.YtceoeiojoffnnaaGreatDoor

/- Plain facts: a product added digit by digit. -/
namespace Go.Proofs.YtceoeiojoffnnaaGreatDoor
set_option linter.unusedVariables false
set_option linter.unusedSimpArgs false

def macc (p y a j : Nat) : Nat := (p % B ^ j + y % B ^ j * a) / B ^ j
theorem macc_zero (p y a : Nat) : macc p y a 0 = 0 := by simp [macc, Nat.mod_one]
theorem macc_le (p y a j : Nat) : macc p y a j ≤ a := by
  have h1 := Nat.mod_lt p (Bpow_pos j)
  have h2 := Nat.mod_lt y (Bpow_pos j)
  unfold macc
  have h3 : p % B ^ j + y % B ^ j * a < (a + 1) * B ^ j := by
    have : y % B ^ j * a ≤ B ^ j * a := Nat.mul_le_mul_right _ (Nat.le_of_lt h2)
    rw [Nat.add_mul, Nat.one_mul, Nat.mul_comm a]
    omega
  have := (Nat.div_lt_iff_lt_mul (Bpow_pos j)).2 h3
  omega
theorem macc_sum (p y a j : Nat) : p % B ^ (j + 1) + y % B ^ (j + 1) * a = (p % B ^ j + y % B ^ j * a) + B ^ j * (dg p j + dg y j * a) := by
  rw [mod_succ, mod_succ]; grind
theorem macc_succ (p y a j : Nat) : macc p y a (j + 1) = (macc p y a j + dg p j + dg y j * a) / B := by
  unfold macc
  rw [macc_sum, Bpow_succ, ← Nat.div_div_eq_div_mul, Nat.add_mul_div_left _ _ (Bpow_pos j), Nat.add_assoc]
theorem dg_macc (p y a j : Nat) : dg (p + y * a) j = (macc p y a j + dg p j + dg y j * a) % B := by
  have h : (p + y * a) / B ^ j = macc p y a j + (p / B ^ j + y / B ^ j * a) := by
    have h1 := div_split p j
    have h2 := div_split y j
    have : p + y * a = (p % B ^ j + y % B ^ j * a) + B ^ j * (p / B ^ j + y / B ^ j * a) := by
      conv => lhs; rw [h1, h2]
      grind
    rw [this, Nat.add_mul_div_left _ _ (Bpow_pos j)]; rfl
  unfold dg
  rw [h, Nat.add_assoc]
  have e1 : (p / B ^ j + y / B ^ j * a) % B = (p / B ^ j % B + y / B ^ j % B * a) % B := by
    rw [Nat.add_mod, Nat.mul_mod]
    conv => rhs; rw [Nat.add_mod, Nat.mul_mod, Nat.mod_mod, Nat.mod_mod]
  rw [Nat.add_mod, e1, ← Nat.add_mod]

/-- one row more of a product -/
theorem prod_step (x y i : Nat) : x % B ^ (i + 1) * y = x % B ^ i * y + B ^ i * (y * dg x i) := by rw [mod_succ]; grind
theorem prod_div (x y i : Nat) : x % B ^ (i + 1) * y / B ^ i = x % B ^ i * y / B ^ i + y * dg x i := by
  rw [prod_step, Nat.add_mul_div_left _ _ (Bpow_pos i)]
theorem prod_low {x y i t : Nat} (h : t < i) : dg (x % B ^ (i + 1) * y) t = dg (x % B ^ i * y) t := by
  have h0 : ∀ z, dg z t = dg (z % B ^ i) t := fun z => (dg_mod h).symm
  rw [h0, h0 (x % B ^ i * y), prod_step, Nat.add_mul_mod_self_left]
theorem prod_mid (x y i j : Nat) : dg (x % B ^ (i + 1) * y) (i + j) = (macc (x % B ^ i * y / B ^ i) y (dg x i) j + dg (x % B ^ i * y) (i + j) + dg y j * dg x i) % B := by
  rw [← dg_div, prod_div, dg_macc, dg_div]
theorem prod_lt (x y i : Nat) : x % B ^ i * y < B ^ (i + dlen y) := by
  rw [Nat.pow_add]
  exact Nat.mul_lt_mul_of_lt_of_le (Nat.mod_lt _ (Bpow_pos i)) (Nat.le_of_lt (lt_dlen y)) (Bpow_pos _)
theorem prod_high {x y i t : Nat} (h : i + dlen y ≤ t) : dg (x % B ^ i * y) t = 0 :=
  dg_of_lt (Nat.lt_of_lt_of_le (prod_lt x y i) (Nat.pow_le_pow_right B_pos h))
theorem mac_fits {c f d e : Nat} (hc : c < B) (hf : f < B) (hd : d < B) (he : e < B) : c + f + e * d < 18446744073709551616 ∧ e * d < 18446744073709551616 ∧ e * d + f < 18446744073709551616 := by
  have : e * d ≤ 4294967295 * 4294967295 := Nat.mul_le_mul (by unfold B at he; omega) (by unfold B at hd; omega)
  unfold B at *
  omega
end Go.Proofs.YtceoeiojoffnnaaGreatDoor

/- Plain facts: the loop of the square root. -/
namespace Go.Proofs.YtceoeiojoffnnaaGreatDoor
set_option linter.unusedVariables false
set_option linter.unusedSimpArgs false

theorem four_pow (k : Nat) : 4 ^ k = 2 ^ (2 * k) := by rw [Nat.pow_mul]

/-- what the loop keeps: e of the c binary digits are known, a is within 1 of the root of the highest ones -/
def Rt (x c e a : Nat) : Prop := e ≤ c ∧ (a - 1) * (a - 1) < x / 4 ^ (c - e) ∧ x / 4 ^ (c - e) < (a + 1) * (a + 1)

theorem rt_start {x c : Nat} (hx : x ≠ 0) (hc : (bl x - 1) / 2 = c) : Rt x c 0 1 ∧ 4 ^ c ≤ x := by
  have h1 := lt_bl x
  have h2 := le_bl hx
  have h3 : 4 ^ c ≤ x := by
    rw [four_pow]
    exact Nat.le_trans (Nat.pow_le_pow_right (by omega) (by omega)) h2
  have h4 : x < 4 ^ c * 4 := by
    have : 2 ^ bl x ≤ 2 ^ (2 * c + 2) := Nat.pow_le_pow_right (by omega) (by omega)
    rw [four_pow]
    have e : 2 ^ (2 * c) * 4 = 2 ^ (2 * c + 2) := by rw [Nat.pow_add]
    omega
  refine ⟨⟨Nat.zero_le _, ?_, ?_⟩, h3⟩
  · rw [Nat.sub_zero]; exact Nat.div_pos h3 (Nat.pow_pos (by omega))
  · rw [Nat.sub_zero]; exact (Nat.div_lt_iff_lt_mul (Nat.pow_pos (by omega))).2 (by omega)

theorem rt_step {x c s a : Nat} (h : Rt x c (c / 2 ^ (s + 1)) a) (hx : 4 ^ c ≤ x) (hs : 2 ^ s ≤ c) :
    Rt x c (c / 2 ^ s) (a * 2 ^ (c / 2 ^ s - c / 2 ^ (s + 1) - 1) + x / 2 ^ (2 * c - c / 2 ^ (s + 1) - c / 2 ^ s + 1) / a) := by
  have hd1 : 1 ≤ c / 2 ^ s := Nat.div_pos hs (Nat.two_pow_pos s)
  have he : c / 2 ^ (s + 1) = c / 2 ^ s / 2 := by rw [Nat.pow_succ, Nat.div_div_eq_div_mul]
  have hdc : c / 2 ^ s ≤ c := Nat.div_le_self ..
  rw [he] at h ⊢
  generalize c / 2 ^ s = d at *
  obtain ⟨h0, h1, h2⟩ := h
  have e1 : x / 4 ^ (c - d) / 4 ^ (d - d / 2) = x / 4 ^ (c - d / 2) := by
    rw [Nat.div_div_eq_div_mul, ← Nat.pow_add]; congr 2; omega
  have e2 : x / 4 ^ (c - d) / 2 ^ (d - d / 2 + 1) = x / 2 ^ (2 * c - d / 2 - d + 1) := by
    rw [four_pow, Nat.div_div_eq_div_mul, ← Nat.pow_add]; congr 2; omega
  have h3 : 4 ^ (d / 2) ≤ x / 4 ^ (c - d) / 4 ^ (d - d / 2) := by
    rw [e1, Nat.le_div_iff_mul_le (Nat.pow_pos (by omega)), ← Nat.pow_add, show d / 2 + (c - d / 2) = c by omega]
    exact hx
  have := root_step (a := a) (e := d / 2) (k := d - d / 2) (m := x / 4 ^ (c - d)) h3 (by omega) (by omega) (by rw [e1]; exact h1) (by rw [e1]; exact h2)
  rw [e2] at this
  exact ⟨hdc, this⟩

theorem rt_le {x c e a : Nat} (h : Rt x c e a) : a ≤ x + 1 := by
  have h1 : (a - 1) * (a - 1) < x := Nat.lt_of_lt_of_le h.2.1 (Nat.div_le_self ..)
  by_cases h0 : a ≤ 1
  · omega
  · have : (a - 1) * 1 ≤ (a - 1) * (a - 1) := Nat.mul_le_mul_left _ (by omega)
    omega
theorem rt_pos {x c e a : Nat} (h : Rt x c e a) (hx : 4 ^ c ≤ x) : a ≠ 0 := by
  intro e0
  subst e0
  obtain ⟨h0, h1, h2⟩ := h
  have h1' : 0 < x / 4 ^ (c - e) := h1
  have h2' : x / 4 ^ (c - e) < 1 := h2
  omega
theorem dlen_succ_le (x : Nat) : dlen (x + 1) ≤ dlen x + 1 := by
  rw [dlen_le, Bpow_succ]
  have h1 := lt_dlen x
  have : B ^ dlen x * 2 ≤ B ^ dlen x * B := Nat.mul_le_mul_left _ (by unfold B; omega)
  have := Bpow_pos (dlen x)
  omega
end Go.Proofs.YtceoeiojoffnnaaGreatDoor
