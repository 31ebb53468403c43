/- Plain mathematics of layer 2's sums: one step is a half with a turn, exclusive or goes through it, and nothing but zero goes to zero. -/
import Derived.Below
namespace Go.Proofs.Ytfgpncbcelafoaa
namespace S

/-- one place further down -/
def T (s : Nat) : Nat := s / 2 ^^^ (if s % 2 = 1 then 2197175160 else 0)
def Tn : Nat → Nat → Nat
  | 0, s => s
  | n + 1, s => Tn n (T s)
/-- all bytes from a number on; a text's sum -/
def crc (s : Nat) (l : List UInt8) : Nat := l.foldl (fun s x => Tn 8 (s ^^^ x.toNat)) s
def sum (l : List UInt8) : Nat := 4294967295 - crc 4294967295 l
/-- bytes as one number, the lowest first -/
def num : List UInt8 → Nat
  | [] => 0
  | x :: l => x.toNat + 256 * num l
/-- four bytes of a number -/
def four (s : Nat) : List UInt8 := [UInt8.ofNat s, UInt8.ofNat (s / 256), UInt8.ofNat (s / 65536), UInt8.ofNat (s / 16777216)]
def sealed (l : List UInt8) : List UInt8 := l ++ four (sum l)
/-- whether a text is sealed -/
def ok (l : List UInt8) : Prop := 4 ≤ l.length ∧ four (sum (l.take (l.length - 4))) = l.drop (l.length - 4)
instance (l : List UInt8) : Decidable (ok l) := by unfold ok; exact inferInstance
/-- a text with one bit turned -/
def turn (l : List UInt8) (i : Nat) : List UInt8 := l.modify (i / 8) fun x => x ^^^ UInt8.ofNat (2 ^ (i % 8))
def turnI (l : List UInt8) (i : Int) : List UInt8 := if 0 ≤ i then turn l i.toNat else l

theorem xor_xor_xor (a b c d : Nat) : (a ^^^ b) ^^^ (c ^^^ d) = (a ^^^ c) ^^^ (b ^^^ d) := by
  rw [Nat.xor_assoc, Nat.xor_assoc, ← Nat.xor_assoc b c d, Nat.xor_comm b c, Nat.xor_assoc c b d]
theorem xor_eq {a b : Nat} (h : a ^^^ b = 0) : a = b := by
  have h2 : (a ^^^ b) ^^^ b = 0 ^^^ b := by rw [h]
  rwa [Nat.xor_assoc, Nat.xor_self, Nat.xor_zero, Nat.zero_xor] at h2
theorem mod2 (a b : Nat) : (a ^^^ b) % 2 = (a % 2) ^^^ (b % 2) := by
  have := @Nat.xor_mod_two_pow a b 1; simpa using this
theorem T_xor (a b : Nat) : T (a ^^^ b) = T a ^^^ T b := by
  unfold T
  rw [xor_xor_xor, ← Nat.xor_div_two, mod2]
  rcases Nat.mod_two_eq_zero_or_one a with ha | ha <;> rcases Nat.mod_two_eq_zero_or_one b with hb | hb <;> simp [ha, hb]
theorem T_zero : T 0 = 0 := rfl
theorem T_even (a : Nat) : T (2 * a) = a := by
  unfold T
  rw [Nat.mul_mod_right, if_neg (by omega), Nat.xor_zero, Nat.mul_div_cancel_left _ (by omega)]
theorem T_lt {a : Nat} (h : a < 4294967296) : T a < 4294967296 := by
  refine @Nat.xor_lt_two_pow _ _ 32 (by omega) ?_
  split <;> omega
theorem T_inj {a : Nat} (h : a < 4294967296) (h0 : T a = 0) : a = 0 := by
  have := xor_eq h0
  split at this <;> omega
theorem Tn_xor (n a b : Nat) : Tn n (a ^^^ b) = Tn n a ^^^ Tn n b := by
  induction n generalizing a b with
  | zero => rfl
  | succ n ih => simp only [Tn]; rw [T_xor, ih]
theorem Tn_add (m n a : Nat) : Tn (m + n) a = Tn n (Tn m a) := by
  induction m generalizing a with
  | zero => rw [Nat.zero_add]; rfl
  | succ m ih => rw [show m + 1 + n = (m + n) + 1 by omega]; simp only [Tn]; exact ih _
theorem Tn_up (n a : Nat) : Tn n (2 ^ n * a) = a := by
  induction n generalizing a with
  | zero => simp [Tn]
  | succ n ih => simp only [Tn]; rw [Nat.pow_succ, Nat.mul_comm (2 ^ n) 2, Nat.mul_assoc, T_even, ih]
theorem Tn_lt (n : Nat) {a : Nat} (h : a < 4294967296) : Tn n a < 4294967296 := by
  induction n generalizing a with
  | zero => exact h
  | succ n ih => exact ih (T_lt h)
theorem Tn_inj (n : Nat) {a : Nat} (h : a < 4294967296) (h0 : Tn n a = 0) : a = 0 := by
  induction n generalizing a with
  | zero => exact h0
  | succ n ih => exact T_inj h (ih (T_lt h) h0)
theorem Tn_inj2 (n : Nat) {a b : Nat} (ha : a < 4294967296) (hb : b < 4294967296) (h : Tn n a = Tn n b) : a = b := by
  refine xor_eq (Tn_inj n (@Nat.xor_lt_two_pow _ _ 32 ha hb) ?_)
  rw [Tn_xor, h, Nat.xor_self]
/-- a burst is told -/
theorem Tn_burst {n f w : Nat} (hf : f ≤ n) (hw : w < 4294967296) (h0 : Tn n (2 ^ f * w) = 0) : w = 0 := by
  rw [show n = f + (n - f) by omega, Tn_add, Tn_up] at h0
  exact Tn_inj _ hw h0
theorem xor_split (x m : Nat) (h : x < 256) : x + 256 * m = x ^^^ (256 * m) := by
  have e1 : 256 * m + x = 256 * m ||| x := Nat.two_pow_add_eq_or_of_lt (i := 8) h m
  rw [Nat.add_comm, e1]
  apply Nat.eq_of_testBit_eq
  intro i
  rw [Nat.testBit_or, Nat.testBit_xor, show 256 * m = 2 ^ 8 * m from rfl, Nat.testBit_two_pow_mul]
  by_cases hi : 8 ≤ i
  · have : x.testBit i = false := Nat.testBit_lt_two_pow (Nat.lt_of_lt_of_le h (Nat.pow_le_pow_right (n := 2) (by decide) hi : 2 ^ 8 ≤ 2 ^ i))
    simp [this]
  · simp [hi]
theorem crc_num (l : List UInt8) (s : Nat) : crc s l = Tn (8 * l.length) (s ^^^ num l) := by
  induction l generalizing s with
  | nil => simp [crc, num, Tn]
  | cons x l ih =>
    have e : crc s (x :: l) = crc (Tn 8 (s ^^^ x.toNat)) l := rfl
    rw [e, ih, List.length_cons, show 8 * (l.length + 1) = 8 + 8 * l.length by omega, Tn_add, num, xor_split _ _ x.toNat_lt, ← Nat.xor_assoc, Tn_xor 8 (s ^^^ x.toNat), show 256 * num l = 2 ^ 8 * num l from rfl, Tn_up]
theorem crc_append (s : Nat) (l m : List UInt8) : crc s (l ++ m) = crc (crc s l) m := by simp [crc]
theorem crc_lt {s : Nat} (l : List UInt8) (hs : s < 4294967296) : crc s l < 4294967296 := by
  induction l generalizing s with
  | nil => exact hs
  | cons x l ih => exact ih (Tn_lt 8 (@Nat.xor_lt_two_pow _ _ 32 hs (Nat.lt_trans x.toNat_lt (by omega))))
theorem sum_lt (l : List UInt8) : sum l < 4294967296 := by unfold sum; omega
theorem not_xor {a : Nat} (h : a < 4294967296) : 4294967295 - a = 4294967295 ^^^ a := by
  have e := @Nat.and_two_pow_sub_one_eq_mod a 32
  apply Nat.eq_of_testBit_eq
  intro i
  rw [show 4294967295 - a = 2 ^ 32 - (a + 1) by omega, Nat.testBit_two_pow_sub_succ h, Nat.testBit_xor, show (4294967295 : Nat) = 2 ^ 32 - 1 from rfl, Nat.testBit_two_pow_sub_one]
  by_cases hi : i < 32
  · simp [hi]
  · have : a.testBit i = false := Nat.testBit_lt_two_pow (Nat.lt_of_lt_of_le h (Nat.pow_le_pow_right (n := 2) (by decide) (by omega : 32 ≤ i) : 2 ^ 32 ≤ 2 ^ i))
    simp [hi, this]
theorem sum_xor (l : List UInt8) : sum l = 4294967295 ^^^ crc 4294967295 l := not_xor (crc_lt l (by omega))
theorem num_append (l m : List UInt8) : num (l ++ m) = num l + 256 ^ l.length * num m := by
  induction l with
  | nil => simp [num]
  | cons x l ih => simp only [List.cons_append, num, ih, List.length_cons, Nat.pow_succ]; rw [Nat.mul_add, Nat.add_assoc, Nat.mul_comm (256 ^ l.length) 256, Nat.mul_assoc]
theorem num_lt (l : List UInt8) : num l < 256 ^ l.length := by
  induction l with
  | nil => simp [num]
  | cons x l ih => have := x.toNat_lt; simp only [num, List.length_cons, Nat.pow_succ]; omega
theorem num_inj {l m : List UInt8} (hl : l.length = m.length) (h : num l = num m) : l = m := by
  induction l generalizing m with
  | nil => exact (List.eq_nil_of_length_eq_zero hl.symm).symm
  | cons x l ih =>
    match m, hl with
    | y :: m, hl =>
      simp only [num] at h
      have hx := x.toNat_lt; have hy := y.toNat_lt
      have h1 : x.toNat = y.toNat := by omega
      rw [UInt8.toNat_inj.1 h1, ih (by simpa using hl) (by omega)]
theorem length_four (s : Nat) : (four s).length = 4 := rfl
theorem num_four {s : Nat} (h : s < 4294967296) : num (four s) = s := by
  simp only [four, num, UInt8.toNat_ofNat']; omega
theorem length_sealed (l : List UInt8) : (sealed l).length = l.length + 4 := by simp [sealed, four]
theorem ok_sealed (l : List UInt8) : ok (sealed l) := by
  refine ⟨by rw [length_sealed]; omega, ?_⟩
  rw [length_sealed, Nat.add_sub_cancel, sealed, List.take_left, List.drop_left]
theorem inner_sealed (l : List UInt8) : (sealed l).take ((sealed l).length - 4) = l := by
  rw [length_sealed, Nat.add_sub_cancel, sealed, List.take_left]
/-- sealed or not, told by the one number -/
theorem ok_iff (c : List UInt8) (h4 : 4 ≤ c.length) : ok c ↔ Tn (8 * c.length) (4294967295 ^^^ num c) = Tn 32 4294967295 := by
  have hl : (c.drop (c.length - 4)).length = 4 := by rw [List.length_drop]; omega
  have hc : c = c.take (c.length - 4) ++ c.drop (c.length - 4) := (List.take_append_drop _ _).symm
  have hn : num (c.drop (c.length - 4)) < 4294967296 := by have := num_lt (c.drop (c.length - 4)); rwa [hl] at this
  have hs := sum_lt (c.take (c.length - 4))
  have hcr := crc_lt (s := 4294967295) (c.take (c.length - 4)) (by omega)
  rw [← crc_num]
  have e1 : crc 4294967295 c = Tn 32 (crc 4294967295 (c.take (c.length - 4)) ^^^ num (c.drop (c.length - 4))) := by
    conv => lhs; rw [hc, crc_append, crc_num, hl]
  rw [e1]
  constructor
  · rintro ⟨_, h⟩
    have h2 : num (c.drop (c.length - 4)) = sum (c.take (c.length - 4)) := by rw [← h, num_four hs]
    rw [h2, sum_xor, Nat.xor_comm 4294967295, ← Nat.xor_assoc, Nat.xor_self, Nat.zero_xor]
  · intro h
    have h2 := Tn_inj2 32 (@Nat.xor_lt_two_pow _ _ 32 hcr hn) (by omega) h
    refine ⟨h4, num_inj (by rw [hl, length_four]) ?_⟩
    rw [num_four hs, sum_xor]
    apply xor_eq
    rw [Nat.xor_assoc, h2, Nat.xor_self]
/-- a sealed text with a burst of bits turned -/
theorem ok_burst (c d : List UInt8) (hl : d.length = c.length) (hc : ok c) {f w : Nat} (hf : f ≤ 8 * c.length) (hw : w < 4294967296) (hd : num d = num c ^^^ (2 ^ f * w)) : ok d ↔ w = 0 := by
  rw [ok_iff d (by rw [hl]; exact hc.1), hl, hd, ← Nat.xor_assoc, Tn_xor, (ok_iff c hc.1).1 hc]
  constructor
  · intro h
    refine Tn_burst hf hw ?_
    have : Tn 32 4294967295 ^^^ (Tn 32 4294967295 ^^^ Tn (8 * c.length) (2 ^ f * w)) = Tn 32 4294967295 ^^^ Tn 32 4294967295 := by rw [h]
    rwa [← Nat.xor_assoc, Nat.xor_self, Nat.zero_xor] at this
  · intro h
    subst h
    have z : ∀ n, Tn n 0 = 0 := fun n => by induction n with | zero => rfl | succ n ih => exact ih
    rw [Nat.mul_zero, z, Nat.xor_zero]
theorem length_turn (l : List UInt8) (i : Nat) : (turn l i).length = l.length := by simp [turn]
theorem length_turnI (l : List UInt8) (i : Int) : (turnI l i).length = l.length := by unfold turnI; split; exact length_turn l _; rfl
theorem num_turn (l : List UInt8) (i : Nat) (h : i < 8 * l.length) : num (turn l i) = num l ^^^ 2 ^ i := by
  induction l generalizing i with
  | nil => simp at h
  | cons x l ih =>
    rcases Nat.lt_or_ge i 8 with h8 | h8
    · have e : turn (x :: l) i = (x ^^^ UInt8.ofNat (2 ^ i)) :: l := by
        simp [turn, Nat.div_eq_of_lt h8, Nat.mod_eq_of_lt h8]
      have hp : 2 ^ i < 256 := by calc 2 ^ i < 2 ^ 8 := Nat.pow_lt_pow_right (by omega) h8
                                  _ = 256 := rfl
      have hx := x.toNat_lt
      rw [e, num, num, UInt8.toNat_xor, UInt8.toNat_ofNat', Nat.mod_eq_of_lt hp, xor_split _ _ (@Nat.xor_lt_two_pow _ _ 8 hx hp), xor_split _ _ hx, Nat.xor_assoc, Nat.xor_comm (2 ^ i), Nat.xor_assoc]
    · have e : turn (x :: l) i = x :: turn l (i - 8) := by
        simp only [turn]
        rw [show i / 8 = (i - 8) / 8 + 1 by omega, show i % 8 = (i - 8) % 8 by omega, List.modify_succ_cons]
      have hx := x.toNat_lt
      have e2 : 256 * (num l ^^^ 2 ^ (i - 8)) = 256 * num l ^^^ 2 ^ i := by
        rw [show 2 ^ i = 256 * 2 ^ (i - 8) by rw [show (256 : Nat) = 2 ^ 8 from rfl, ← Nat.pow_add]; congr 1; omega]
        have := Nat.shiftLeft_xor_distrib (i := 8) (a := num l) (b := 2 ^ (i - 8))
        simp only [Nat.shiftLeft_eq] at this
        rw [Nat.mul_comm, Nat.mul_comm 256, Nat.mul_comm 256]; exact this
      rw [e, num, num, ih (i - 8) (by simp only [List.length_cons] at h; omega), xor_split _ _ hx, e2, xor_split _ _ hx, Nat.xor_assoc]
theorem turn_turn (l : List UInt8) (i : Nat) : turn (turn l i) i = l := by
  apply List.ext_getElem (by simp [turn])
  intro j h1 h2
  simp only [turn, List.getElem_modify]
  split
  · rw [UInt8.xor_assoc, UInt8.xor_self, UInt8.xor_zero]
  · rfl
/-- three texts of one length -/
theorem sum_three (a b c d : List UInt8) (h1 : a.length = d.length) (h2 : b.length = d.length) (h3 : c.length = d.length) (h : num d = num a ^^^ num b ^^^ num c) : sum d = sum a ^^^ sum b ^^^ sum c := by
  simp only [sum_xor, crc_num, h1, h2, h3, h, Tn_xor]
  generalize Tn (8 * d.length) 4294967295 = F
  generalize Tn (8 * d.length) (num a) = A
  generalize Tn (8 * d.length) (num b) = B
  generalize Tn (8 * d.length) (num c) = C
  generalize (4294967295 : Nat) = G
  apply Nat.eq_of_testBit_eq
  intro i
  simp only [Nat.testBit_xor]
  cases F.testBit i <;> cases A.testBit i <;> cases B.testBit i <;> cases C.testBit i <;> cases G.testBit i <;> rfl
/-- byte by byte -/
def xors (l m : List UInt8) : List UInt8 := List.zipWith (fun x y => x ^^^ y) l m
theorem num_xors (l m : List UInt8) (h : l.length = m.length) : num (xors l m) = num l ^^^ num m := by
  induction l generalizing m with
  | nil => cases m <;> simp_all [xors, num]
  | cons x l ih =>
    match m, h with
    | y :: m, h =>
      have e : xors (x :: l) (y :: m) = (x ^^^ y) :: xors l m := rfl
      have hx := x.toNat_lt
      have hy := y.toNat_lt
      have e2 : 256 * (num l ^^^ num m) = 256 * num l ^^^ 256 * num m := by
        have := Nat.shiftLeft_xor_distrib (i := 8) (a := num l) (b := num m)
        simp only [Nat.shiftLeft_eq] at this
        rw [Nat.mul_comm, Nat.mul_comm 256, Nat.mul_comm 256]; exact this
      rw [e, num, num, num, ih m (by simpa using h), UInt8.toNat_xor, xor_split _ _ (@Nat.xor_lt_two_pow _ _ 8 hx hy), e2, xor_split _ _ hx, xor_split _ _ hy, xor_xor_xor]
theorem length_xors (l m : List UInt8) : (xors l m).length = min l.length m.length := by simp [xors]
def xor3 (a b c : List UInt8) (n : Nat) : List UInt8 := xors (xors (a.take n) (b.take n)) (c.take n)
theorem length_xor3 {a b c : List UInt8} {n : Nat} (h1 : n ≤ a.length) (h2 : n ≤ b.length) (h3 : n ≤ c.length) : (xor3 a b c n).length = n := by
  simp only [xor3, length_xors, List.length_take]; omega
theorem sum_xor3 {a b c : List UInt8} {n : Nat} (h1 : n ≤ a.length) (h2 : n ≤ b.length) (h3 : n ≤ c.length) : sum (xor3 a b c n) = sum (a.take n) ^^^ sum (b.take n) ^^^ sum (c.take n) := by
  have e := length_xor3 h1 h2 h3
  refine sum_three _ _ _ _ (by rw [e, List.length_take]; omega) (by rw [e, List.length_take]; omega) (by rw [e, List.length_take]; omega) ?_
  rw [xor3, num_xors _ _ (by simp only [length_xors, List.length_take]; omega), num_xors _ _ (by simp only [List.length_take]; omega)]
theorem xor3_at {a b c : List UInt8} {n k : Nat} {x y z : UInt8} (hk : k < n) (hx : a[k]? = some x) (hy : b[k]? = some y) (hz : c[k]? = some z) : (xor3 a b c n)[k]? = some (x ^^^ y ^^^ z) := by
  simp [xor3, xors, List.getElem?_zipWith, hk, hx, hy, hz]
end S
end Go.Proofs.Ytfgpncbcelafoaa
