/- ZC7 (merged). -/
import Derived.Test.YtbioblknhfmelaaJZRow5
import Derived.Test.YtbioblknhfmelaaJNM
namespace Go.Proofs.Ytbioblknhfmelaa
set_option linter.unusedVariables false
set_option linter.unusedSimpArgs false
open Go.RowKit
/-- what stands at a place of bytes -/
def PartR (b : List UInt8) (A : Option Addr) (c i : Nat) (e : Ending) : Prop :=
  (b.drop i = [] ∧ e = .returned (.tuple #[.slice none 0 0, .int .i64 2])) ∨
  ∃ (x : UInt8) (r : List UInt8) (bq oq : Nat), A = some ⟨bq, oq, none⟩ ∧ b.drop i = x :: r ∧ (
    (63 < x.toNat ∧ x.toNat < 192 ∧ e = .returned (.tuple #[.slice none 0 0, .int .i64 3])) ∨
    (x.toNat < 64 ∧ r.length < x.toNat ∧ e = .returned (.tuple #[.slice none 0 0, .int .i64 2])) ∨
    (¬ x.toNat < 192 ∧ r = [] ∧ e = .returned (.tuple #[.slice none 0 0, .int .i64 2])) ∨
    (x.toNat < 64 ∧ ¬ r.length < x.toNat ∧ e = .returned (.tuple #[.slice (some ⟨bq, oq + i, none⟩) (x.toNat + 1) (c - i), .int .i64 0])) ∨
    (¬ x.toNat < 192 ∧ ∃ y r', r = y :: r' ∧ e = .returned (.tuple #[.slice (some ⟨bq, oq + i, none⟩) 2 (c - i), .int .i64 0])))
theorem part_fit {c : Int} (h0 : 0 ≤ c) (h : c < 256) : wrap64 (1 + c) = 1 + c ∧ IntKind.i64.wrap (1 + c) = 1 + c := ⟨by unfold wrap64; omega, IntWalk.i64_in _ (by omega)⟩
theorem sub_fit {n i : Nat} (h : n ≤ 1000000) (hi : i ≤ n) : wrap64 ((n : Int) - (i : Int)) = ((n - i : Nat) : Int) ∧ IntKind.i64.wrap ((n : Int) - (i : Int)) = ((n - i : Nat) : Int) := by
  have e : (n : Int) - (i : Int) = ((n - i : Nat) : Int) := by omega
  rw [e]
  exact ⟨by unfold wrap64; omega, IntWalk.i64_in _ (by omega)⟩
theorem atp_fit {i s t : Nat} {si : Int} (h : i + s = t) (hs : (s : Int) = si) (ht : t ≤ 2000000) : wrap64 ((i : Int) + si) = (t : Int) ∧ IntKind.i64.wrap ((i : Int) + si) = (t : Int) := by
  have e : (i : Int) + si = (t : Int) := by omega
  rw [e]
  exact ⟨by unfold wrap64; omega, IntWalk.i64_in _ (by omega)⟩
theorem cut_some {bq oq c i : Nat} (h : i < c) : cutA (some ⟨bq, oq, none⟩) c i 1 = some ⟨bq, oq + i, none⟩ := by
  unfold cutA
  rw [if_neg (by omega)]
  simp only [Option.map_some, Addr.add, Nat.mul_one]
  split <;> simp_all
set_option maxHeartbeats 4000000 in
set_option maxRecDepth 20000 in
theorem ppart_any (b : List UInt8) (i : Nat) (A : Option Addr) (n c B : Nat) (w : World) (h : Rd w B 1 A n (U b)) (hn : n ≤ 1000000) (hc : n ≤ c ∧ c ≤ 9223372036854775807) (hi : i ≤ n) :
    Calls Try.prog 39 #[.slice A n c, .int .i64 (i : Int)] w fun e w' => PartR b A c i e ∧ w = w' := by
  have hl : b.length = n := by have := h.len1; rwa [U_length] at this
  have HL := Lib.hid hl
  have HN := Lib.hid hn
  have HC := Lib.hid hc
  clear hl hn hc
  go_enter Try.func39, Try.ntmps39
  by_cases hlt : i < n
  rotate_left
  · obtain rfl : i = n := by omega
    have Z : Hid (b.drop i = []) := Lib.hid (List.drop_eq_nil_of_le (by have := HL.out; omega))
    have t1 : ((i : Int) == (i : Int)) = true := by simp
    clear hi hlt
    go_wp2
    go_ret2
    exact ⟨Or.inl ⟨Z.out, rfl⟩, rfl⟩
  have t1 : ((i : Int) == (n : Int)) = false := beq_eq_false_iff_ne.2 (by omega)
  obtain ⟨bq, oq, x, rfl, hbq, hx, hcx⟩ := h.atU (k := i) hlt
  have HD := Lib.hid (drop_more hx)
  obtain ⟨ci, hci⟩ : ∃ z : Int, (x.toNat : Int) = z := ⟨_, rfl⟩
  rw [hci] at hcx
  have hx256 := x.toNat_lt
  have cv : IntKind.i64.wrap ci = ci := IntWalk.i64_in _ (by omega)
  have c0 : 0 ≤ ci := by omega
  have HCI := Lib.hid (And.intro hci hx256)
  have hRL : (b.drop (i + 1)).length + i + 1 = n := by rw [List.length_drop]; have := HL.out; omega
  have HRL := Lib.hid hRL
  have hi0 : (0 : Int) ≤ (i : Int) := by omega
  obtain ⟨s1, s2⟩ := sub_fit HN.out hi
  have HS := Lib.hid (And.intro s1 s2)
  obtain ⟨p1, p2⟩ := part_fit c0 (by omega : ci < 256)
  obtain ⟨d, hd⟩ : ∃ k : Nat, n - i = k := ⟨_, rfl⟩
  obtain ⟨sz, hsz⟩ : ∃ z : Int, 1 + ci = z := ⟨_, rfl⟩
  have HP := Lib.hid (And.intro (p1.trans hsz) (p2.trans hsz))
  have HD2 := Lib.hid hd
  have HSZ := Lib.hid hsz
  have hiH := Lib.hid hi
  rw [hd] at HS
  clear hx hRL s1 s2 p1 p2 hd hsz hx256 hci hi
  have hi2 : i < n := hlt
  by_cases h192 : 192 ≤ ci
  · have t2 : decide ((192 : Int) ≤ ci) = true := decide_eq_true h192
    by_cases hs : n - i < 2
    · have t3 : decide ((d : Int) < 2) = true := decide_eq_true (by have := HD2.out; omega)
      have t3' : decide (d < 2) = true := decide_eq_true (by have := HD2.out; omega)
      have Z : Hid (b.drop (i + 1) = []) := Lib.hid (List.eq_nil_of_length_eq_zero (by have := HRL.out; omega))
      have Z2 : Hid (¬ x.toNat < 192) := Lib.hid (by have := HCI.out.1; omega)
      clear hs h192 hlt
      obtain ⟨s1, s2⟩ := HS.out
      obtain ⟨p1, p2⟩ := HP.out
      go_wp2
      go_ret2
      exact ⟨Or.inr ⟨x, b.drop (i + 1), bq, oq, rfl, HD.out, Or.inr (Or.inr (Or.inl ⟨Z2.out, Z.out, rfl⟩))⟩, rfl⟩
    have t3 : decide ((d : Int) < 2) = false := decide_eq_false (by have := HD2.out; omega)
    have t3' : decide (d < 2) = false := decide_eq_false (by have := HD2.out; omega)
    have Z2 : Hid (¬ x.toNat < 192) := Lib.hid (by have := HCI.out.1; omega)
    obtain ⟨t, ht⟩ : ∃ k : Nat, i + 2 = k := ⟨_, rfl⟩
    obtain ⟨a1, a2⟩ := atp_fit ht (show ((2 : Nat) : Int) = 2 from rfl) (by have := HN.out; omega)
    have CUT := fun W => run_cut_lh u8T W (some ⟨bq, oq, none⟩) n c i t (i : Int) (t : Int) rfl rfl (by omega) (by have := HC.out; omega)
    rw [cut_some (show i < c by have := HC.out; omega), show t - i = 2 by omega] at CUT
    have Z : Hid (∃ y r', b.drop (i + 1) = y :: r') := Lib.hid (by
      cases hr : b.drop (i + 1) with
      | nil => have h1 := HRL.out; rw [hr] at h1; simp at h1; omega
      | cons y r' => exact ⟨y, r', rfl⟩)
    have HA := Lib.hid (And.intro a1 a2)
    clear hs h192 hlt ht a1 a2
    obtain ⟨s1, s2⟩ := HS.out
    obtain ⟨p1, p2⟩ := HP.out
    obtain ⟨a1, a2⟩ := HA.out
    go_wp2
    go_ret2
    obtain ⟨y, r', hr⟩ := Z.out
    exact ⟨Or.inr ⟨x, b.drop (i + 1), bq, oq, rfl, HD.out, Or.inr (Or.inr (Or.inr (Or.inr ⟨Z2.out, y, r', hr, rfl⟩)))⟩, rfl⟩
  have t2 : decide ((192 : Int) ≤ ci) = false := decide_eq_false h192
  by_cases h63 : 63 < ci
  · have t3 : decide ((63 : Int) < ci) = true := decide_eq_true h63
    have Z2 : Hid (63 < x.toNat ∧ x.toNat < 192) := Lib.hid (by have := HCI.out.1; omega)
    clear h192 h63 hlt
    obtain ⟨p1, p2⟩ := HP.out
    go_wp2
    go_ret2
    exact ⟨Or.inr ⟨x, b.drop (i + 1), bq, oq, rfl, HD.out, Or.inl ⟨Z2.out.1, Z2.out.2, rfl⟩⟩, rfl⟩
  have t3 : decide ((63 : Int) < ci) = false := decide_eq_false h63
  have Z2 : Hid (x.toNat < 64) := Lib.hid (by have := HCI.out.1; omega)
  by_cases hs : (b.drop (i + 1)).length < x.toNat
  · have t4 : decide ((d : Int) < sz) = true := decide_eq_true (by have := HD2.out; have := HSZ.out; have := HCI.out.1; have := HRL.out; omega)
    have ZS := Lib.hid hs
    clear h192 h63 hs hlt
    obtain ⟨s1, s2⟩ := HS.out
    obtain ⟨p1, p2⟩ := HP.out
    go_wp2
    go_ret2
    exact ⟨Or.inr ⟨x, b.drop (i + 1), bq, oq, rfl, HD.out, Or.inr (Or.inl ⟨Z2.out, ZS.out, rfl⟩)⟩, rfl⟩
  have t4 : decide ((d : Int) < sz) = false := decide_eq_false (by have := HD2.out; have := HSZ.out; have := HCI.out.1; have := HRL.out; omega)
  have ZS := Lib.hid hs
  obtain ⟨t, ht⟩ : ∃ k : Nat, i + (x.toNat + 1) = k := ⟨_, rfl⟩
  obtain ⟨a1, a2⟩ := atp_fit ht (show ((x.toNat + 1 : Nat) : Int) = sz by have := HSZ.out; have := HCI.out.1; omega) (by have := HN.out; have := HCI.out.2; omega)
  have CUT := fun W => run_cut_lh u8T W (some ⟨bq, oq, none⟩) n c i t (i : Int) (t : Int) rfl rfl (by omega) (by have := HC.out; have := HRL.out; omega)
  rw [cut_some (show i < c by have := HC.out; omega), show t - i = x.toNat + 1 by omega] at CUT
  have HA := Lib.hid (And.intro a1 a2)
  clear h192 h63 hs hlt ht a1 a2
  obtain ⟨s1, s2⟩ := HS.out
  obtain ⟨p1, p2⟩ := HP.out
  obtain ⟨a1, a2⟩ := HA.out
  go_wp2
  go_ret2
  exact ⟨Or.inr ⟨x, b.drop (i + 1), bq, oq, rfl, HD.out, Or.inr (Or.inr (Or.inr (Or.inl ⟨Z2.out, ZS.out, rfl⟩)))⟩, rfl⟩
def lenS : Value → Nat
  | .slice _ n _ => n
  | _ => 0
theorem or_jump {a d : Nat} (ha : a < 64) (hd : d < 256) : bits .or .i64 ((a * 256 : Nat) : Int) (d : Int) = ((a * 256 + d : Nat) : Int) := by
  rw [i64_or _ _ (by omega) (by omega)]
  have h1 := Nat.two_pow_add_eq_or_of_lt (i := 8) (b := d) (by omega) a
  rw [show a * 256 = 2 ^ 8 * a by omega, ← h1]
theorem u8_in {x m : Int} (h0 : 0 ≤ x) (hm : x = m) (h : m < 256) : IntKind.u8.wrap x = m := by
  subst hm
  show x % 256 = x
  omega
/-- what is known of a name's place behind it -/
def NxOf (nx : Option Nat) (j : Nat) (nv : Int) : Prop := (j = 0 ∧ nx = none) ∨ (j ≠ 0 ∧ ∃ k : Nat, nx = some k ∧ nv = (k : Int))
theorem NxOf.zero {nx : Option Nat} {nv : Int} (h : NxOf nx 0 nv) : nx = none := by
  rcases h with h | h
  · exact h.2
  · exact absurd rfl h.1
theorem NxOf.more {nx : Option Nat} {j : Nat} {nv : Int} (h : NxOf nx j nv) (hj : j ≠ 0) : ∃ k : Nat, nx = some k ∧ nv = (k : Int) := by
  rcases h with h | h
  · exact absurd h.1 hj
  · exact h.2
/-- the frame in the loop -/
def NamC (W : World) (b : List UInt8) (i0 : Int) (n : Nat) (s1 s5 s7 s9 s10 : Value) (wr : World) : Prop := ∃ (f : Nat) (out : List UInt8) (at_ st : Nat) (nx : Option Nat) (j : Nat) (nv : Int) (A' : Option Addr) (n' c' : Nat), s1 = .int .i64 (at_ : Int) ∧ s5 = .int .i64 nv ∧ s7 = .slice A' n' c' ∧ s9 = .int .i64 (st : Int) ∧ s10 = .int .i64 (j : Int) ∧
  Hid (Pk.nameAt b i0 = Pk.nameF f b out at_ st nx j ∧ 300 ≤ f + n' + j ∧ n' ≤ 254 ∧ j ≤ 16 ∧ at_ ≤ n ∧ st ≤ n ∧ NxOf nx j nv) ∧ Wr wr W.heap.size A' n' c' out ∧ Below W.heap.size W wr
set_option maxHeartbeats 8000000 in
set_option maxRecDepth 40000 in
theorem pname_any (b : List UInt8) (i0 : Int) (A : Option Addr) (n c : Nat) (w : World) (h : Rd w w.heap.size 1 A n (U b)) (hn : n ≤ 1000000) (hc : n ≤ c ∧ c ≤ 9223372036854775807) :
    Calls Try.prog 20 #[.slice A n c, .int .i64 i0] w (NmR (Pk.nameAt b i0) w) := by
  have hl : b.length = n := by have := h.len1; rwa [U_length] at this
  have HL := Lib.hid hl
  have HN := Lib.hid hn
  have HC := Lib.hid hc
  clear hl hn hc
  go_enter Try.func20, Try.ntmps20
  by_cases h0 : i0 < 0
  · have f1 : decide (i0 < 0) = true := decide_eq_true h0
    have EE : Hid (Pk.nameAt b i0 = ([], 0, 1)) := Lib.hid (if_pos (Or.inl h0))
    clear h0
    go_wp2
    go_ret3
    exact ⟨by rw [EE.out]; rfl, Below.refl _ _⟩
  have f1 : decide (i0 < 0) = false := decide_eq_false h0
  obtain ⟨i, rfl⟩ : ∃ k : Nat, i0 = (k : Int) := ⟨i0.toNat, by omega⟩
  by_cases h1 : n < i
  · have f2 : decide ((n : Int) < (i : Int)) = true := decide_eq_true (by omega)
    have f2' : decide (n < i) = true := decide_eq_true h1
    have EE : Hid (Pk.nameAt b (i : Int) = ([], 0, 1)) := Lib.hid (if_pos (Or.inr (by have := HL.out; omega)))
    clear h0 h1
    go_wp2
    go_ret3
    exact ⟨by rw [EE.out]; rfl, Below.refl _ _⟩
  have f2 : decide ((n : Int) < (i : Int)) = false := decide_eq_false (by omega)
  have f2' : decide (n < i) = false := decide_eq_false h1
  have EE : Hid (Pk.nameAt b (i : Int) = Pk.nameF 300 b [] i i none 0 ∧ i ≤ n) := Lib.hid ⟨by unfold Pk.nameAt; rw [if_neg (by have := HL.out; omega)]; rfl, by omega⟩
  clear h0 h1
  go_wp2
  clear f1 f2 f2'
  go_loopw [1, 5, 7, 9, 10] (NamC w b (i : Int) n) (fun _ _ s7 _ s10 _ => (300 - lenS s7) + (17 - (intOf s10).toNat))
  case atStart => exact ⟨300, [], i, i, none, 0, 0, none, 0, 0, rfl, rfl, rfl, rfl, rfl, Lib.hid ⟨EE.out.1, by omega, by omega, by omega, EE.out.2, EE.out.2, Or.inl ⟨rfl, rfl⟩⟩, Wr.nil _ _, Below.refl _ _⟩
  case round =>
    obtain ⟨f, out, at_, st, nx, j, nv, A', n', c', rfl, rfl, rfl, rfl, rfl, H, hw, bw⟩ := hrel
    clear EE
    obtain ⟨f', ef⟩ : ∃ f', f = f' + 1 := ⟨f - 1, by have := H.out.2; omega⟩
    subst ef
    have ha0 : (0 : Int) ≤ (at_ : Int) := by omega
    have R := h.belowH bw
    have hatn : at_ ≤ n := H.out.2.2.2.2.1
    go_wp2_with fail
    refine (ppart_any b at_ A n c wr.heap.size wr R HN.out HC.out hatn).mono ?_
    rintro e w2 ⟨hp, rfl⟩
    rcases hp with ⟨hd, rfl⟩ | ⟨x, r, bq, oq, rfl, hd, hp⟩
    · have Z : Hid (Pk.nameAt b (i : Int) = ([], 0, 2)) := Lib.hid (by rw [H.out.1, Pk.nf_end hd])
      clear hd
      go_wp2
      go_ret3
      exact ⟨by rw [Z.out]; rfl, bw⟩
    have HD := Lib.hid hd
    have hlt : at_ < n := by
      have h1 := congrArg List.length hd
      rw [List.length_drop, List.length_cons] at h1
      have := HL.out
      omega
    have HRL : Hid (r.length + at_ + 1 = n) := Lib.hid (by
      have h1 := congrArg List.length hd
      rw [List.length_drop, List.length_cons] at h1
      have := HL.out
      omega)
    rcases hp with ⟨z1, z2, rfl⟩ | ⟨z1, z2, rfl⟩ | ⟨z1, z2, rfl⟩ | ⟨z1, z2, rfl⟩ | ⟨z1, y, r', z2, rfl⟩
    · have Z : Hid (Pk.nameAt b (i : Int) = ([], 0, 3)) := Lib.hid (by rw [H.out.1, Pk.nf_form hd (by omega) z2])
      clear hd z1 z2 hlt
      go_wp2
      go_ret3
      exact ⟨by rw [Z.out]; rfl, bw⟩
    · have Z : Hid (Pk.nameAt b (i : Int) = ([], 0, 2)) := Lib.hid (by rw [H.out.1, Pk.nf_short hd (by omega) z1 z2])
      clear hd z1 z2 hlt
      go_wp2
      go_ret3
      exact ⟨by rw [Z.out]; rfl, bw⟩
    · have Z : Hid (Pk.nameAt b (i : Int) = ([], 0, 2)) := Lib.hid (by rw [H.out.1, Pk.nf_cut (by rw [hd, z2]) z1])
      clear hd z1 z2 hlt
      go_wp2
      go_ret3
      exact ⟨by rw [Z.out]; rfl, bw⟩
    · obtain ⟨b1, o1, x1, e1, hbq, hx1, cx⟩ := R.atU (k := at_) hlt
      obtain ⟨rfl, rfl⟩ : bq = b1 ∧ oq = o1 := by simpa using e1
      obtain rfl : x1 = x := by have h1 := drop_more hx1; rw [hd] at h1; injection h1 with h1 _; exact h1.symm
      obtain ⟨ci, hci⟩ : ∃ z : Int, (x1.toNat : Int) = z := ⟨_, rfl⟩
      rw [hci] at cx
      obtain ⟨cn, hcn⟩ : ∃ k : Nat, x1.toNat = k := ⟨_, rfl⟩
      have HCN := Lib.hid hcn
      obtain ⟨en, hen⟩ : ∃ k : Nat, at_ + (cn + 1) = k := ⟨_, rfl⟩
      obtain ⟨q1, q2⟩ := atp_fit hen (show ((cn + 1 : Nat) : Int) = (cn : Int) + 1 by omega) (by have := HN.out; omega)
      have t1 : decide ((192 : Int) ≤ ci) = false := decide_eq_false (by omega)
      have HX : Hid (cn < 64 ∧ ¬ r.length < cn ∧ at_ + (cn + 1) = en ∧ (cn : Int) = ci) := Lib.hid ⟨by omega, by omega, hen, by omega⟩
      have HQ := Lib.hid (And.intro q1 q2)
      have HE : Hid (en ≤ n) := Lib.hid (by have := HRL.out; omega)
      rw [hcn]
      clear hd z1 z2 hlt e1 hx1 hcn hen q1 q2 hci
      by_cases hz : ci = 0
      · have t2 : (ci == 0) = true := beq_iff_eq.2 hz
        have hcn0 : cn = 0 := by have := HX.out; omega
        have Z : Hid (Pk.nameAt b (i : Int) = (out ++ [0], nx.getD (at_ + 1), 0)) := Lib.hid (by rw [H.out.1, Pk.nf_zero HD.out (by rw [HCN.out]; exact hcn0)])
        have hen1 : Hid (en = at_ + 1) := Lib.hid (by have := HX.out; omega)
        have hb1 : n' + 1 ≤ 70368744177664 := by have := H.out.2; omega
        have hbs := bw.size
        clear hz hcn0 hatn
        by_cases hj : j = 0
        · subst hj
          have hnx : Hid (nx = none) := Lib.hid H.out.2.2.2.2.2.2.zero
          obtain ⟨q1, q2⟩ := HQ.out
          go_wp2_with (at_builtin; refine wr_law rfl (.tmp 76) (.tmp 77) rfl rfl (hw.alloc _) (by simp; omega) rfl (news := [0]) (Rd.one _ _ _) (by omega) hb1 ?_; rintro A2 c2 w2 hw2; have CV := run_str (P := Try.prog) 28 9 5 Try.underlying28 Try.underlying5 Try.underlying9 (c := c2) hw2.1.rd)
          go_ret3
          have b2 := hw2.rows (hw.alloc _) (bw.alloc hbs _) (Nat.le_refl _) (by simp; omega)
          exact ⟨by rw [Z.out, hnx.out, ← hen1.out]; rfl, b2⟩
        · have t3 : ((j : Int) == 0) = false := beq_eq_false_iff_ne.2 (by omega)
          have t3' : (j == 0) = false := beq_eq_false_iff_ne.2 hj
          obtain ⟨k, hk1, hk2⟩ := H.out.2.2.2.2.2.2.more hj
          have hnx : Hid (nx = some k) := Lib.hid hk1
          subst hk2
          clear hj hk1
          obtain ⟨q1, q2⟩ := HQ.out
          go_wp2_with (at_builtin; refine wr_law rfl (.tmp 76) (.tmp 77) rfl rfl (hw.alloc _) (by simp; omega) rfl (news := [0]) (Rd.one _ _ _) (by omega) hb1 ?_; rintro A2 c2 w2 hw2; have CV := run_str (P := Try.prog) 28 9 5 Try.underlying28 Try.underlying5 Try.underlying9 (c := c2) hw2.1.rd)
          go_ret3
          have b2 := hw2.rows (hw.alloc _) (bw.alloc hbs _) (Nat.le_refl _) (by simp; omega)
          exact ⟨by rw [Z.out, hnx.out]; rfl, b2⟩
      have t2 : (ci == 0) = false := beq_eq_false_iff_ne.2 hz
      have RP := (R.drop1 (k := at_)).take1 (k := cn + 1) (by have := HX.out; have := HRL.out; omega)
      rw [U_drop, U_take] at RP
      obtain ⟨pt, hpt⟩ : ∃ l, (b.drop at_).take (cn + 1) = l := ⟨_, rfl⟩
      rw [hpt] at RP
      have PT : Hid (pt = x1 :: r.take x1.toNat ∧ pt.length = cn + 1) := Lib.hid (by
        have ee : pt = x1 :: r.take x1.toNat := by
          rw [← hpt, HD.out, ← HCN.out]
          rfl
        refine ⟨ee, ?_⟩
        rw [ee, List.length_cons, List.length_take, HCN.out]
        have := HX.out
        omega)
      have hb1 : n' + (cn + 1) ≤ 70368744177664 := by have := H.out.2; have := HX.out; omega
      have hbs := bw.size
      obtain ⟨ol, hol⟩ : ∃ k : Nat, n' + (cn + 1) = k := ⟨_, rfl⟩
      have HOL : Hid (n' + (cn + 1) = ol ∧ (out ++ pt).length = ol) := Lib.hid ⟨hol, by rw [List.length_append, PT.out.2, hw.1]; exact hol⟩
      obtain ⟨o1, ho1⟩ : ∃ k : Nat, ol + 1 = k := ⟨_, rfl⟩
      obtain ⟨u1, u2⟩ := atp_fit (i := ol) (s := 1) (si := 1) (t := o1) ho1 rfl (by have := H.out.2; have := HX.out; omega)
      have hz0 : Hid (x1.toNat ≠ 0) := Lib.hid (by rw [HCN.out]; have := HX.out; omega)
      have hcn1 : 1 ≤ cn + 1 := by omega
      clear hpt hz hatn hol
      by_cases h254 : 254 < ol
      · have t4 : decide ((255 : Int) < (o1 : Int)) = true := decide_eq_true (by omega)
        have t4' : decide (255 < o1) = true := decide_eq_true (by omega)
        have Z : Hid (Pk.nameAt b (i : Int) = ([], 0, 4)) := Lib.hid (by rw [H.out.1, Pk.nf_long HD.out hz0.out (by rw [HCN.out]; exact HX.out.1) (by rw [HCN.out]; exact HX.out.2.1) (by rw [← PT.out.1, HOL.out.2]; exact h254)])
        have HU := Lib.hid (And.intro u1 u2)
        clear h254 u1 u2 ho1
        by_cases hj : j = 0
        · subst hj
          obtain ⟨q1, q2⟩ := HQ.out
          obtain ⟨u1, u2⟩ := HU.out
          go_wp2_with (at_builtin; refine wr_law rfl (.tmp 37) (.tmp 38) rfl rfl hw hbs rfl RP hcn1 hb1 ?_; rintro A2 c2 w2 hw2; rw [HOL.out.1])
          go_ret3
          have b2 := hw2.rows hw bw (Nat.le_refl _) hbs
          exact ⟨by rw [Z.out]; rfl, b2⟩
        · have t3 : ((j : Int) == 0) = false := beq_eq_false_iff_ne.2 (by omega)
          have t3' : (j == 0) = false := beq_eq_false_iff_ne.2 hj
          have HJ := Lib.hid hj
          clear hj
          obtain ⟨q1, q2⟩ := HQ.out
          obtain ⟨u1, u2⟩ := HU.out
          go_wp2_with (at_builtin; refine wr_law rfl (.tmp 37) (.tmp 38) rfl rfl hw hbs rfl RP hcn1 hb1 ?_; rintro A2 c2 w2 hw2; rw [HOL.out.1])
          go_ret3
          have b2 := hw2.rows hw bw (Nat.le_refl _) hbs
          exact ⟨by rw [Z.out]; rfl, b2⟩
      have t4 : decide ((255 : Int) < (o1 : Int)) = false := decide_eq_false (by omega)
      have t4' : decide (255 < o1) = false := decide_eq_false (by omega)
      have NX : Hid (Pk.nameAt b (i : Int) = Pk.nameF f' b (out ++ pt) en st nx j ∧ 300 ≤ f' + ol + j ∧ ol ≤ 254 ∧ j ≤ 16 ∧ en ≤ n ∧ st ≤ n) := Lib.hid ⟨by
        rw [H.out.1, Pk.nf_label HD.out hz0.out (by rw [HCN.out]; exact HX.out.1) (by rw [HCN.out]; exact HX.out.2.1) (by rw [← PT.out.1, HOL.out.2]; exact h254), ← PT.out.1, HCN.out, show at_ + 1 + cn = en by have := HX.out; omega], by have := HOL.out.1; have := H.out.2; omega, by omega, H.out.2.2.2.1, HE.out, H.out.2.2.2.2.2.1⟩
      have MS : Hid (300 - ol < 300 - n') := Lib.hid (by have := HOL.out.1; have := H.out.2; omega)
      have HU := Lib.hid (And.intro u1 u2)
      clear h254 u1 u2 ho1
      by_cases hj : j = 0
      · subst hj
        obtain ⟨q1, q2⟩ := HQ.out
        obtain ⟨u1, u2⟩ := HU.out
        go_wp2_with (at_builtin; refine wr_law rfl (.tmp 37) (.tmp 38) rfl rfl hw hbs rfl RP hcn1 hb1 ?_; rintro A2 c2 w2 hw2; rw [HOL.out.1])
        have b2 := hw2.rows hw bw (Nat.le_refl _) hbs
        have W2 := hw2.1
        rw [HOL.out.1] at W2
        go_roundw
        case rel => exact ⟨f', out ++ pt, en, st, nx, 0, (en : Int), A2, ol, c2, rfl, rfl, rfl, rfl, rfl, Lib.hid ⟨NX.out.1, NX.out.2.1, NX.out.2.2.1, NX.out.2.2.2.1, NX.out.2.2.2.2.1, NX.out.2.2.2.2.2, Or.inl ⟨rfl, H.out.2.2.2.2.2.2.zero⟩⟩, W2, b2⟩
        case measure => show (300 - ol) + (17 - 0) < (300 - n') + (17 - 0); have := MS.out; omega
      · have t3 : ((j : Int) == 0) = false := beq_eq_false_iff_ne.2 (by omega)
        have t3' : (j == 0) = false := beq_eq_false_iff_ne.2 hj
        have HJ := Lib.hid hj
        clear hj
        obtain ⟨q1, q2⟩ := HQ.out
        obtain ⟨u1, u2⟩ := HU.out
        go_wp2_with (at_builtin; refine wr_law rfl (.tmp 37) (.tmp 38) rfl rfl hw hbs rfl RP hcn1 hb1 ?_; rintro A2 c2 w2 hw2; rw [HOL.out.1])
        have b2 := hw2.rows hw bw (Nat.le_refl _) hbs
        have W2 := hw2.1
        rw [HOL.out.1] at W2
        go_roundw
        case rel => exact ⟨f', out ++ pt, en, st, nx, j, nv, A2, ol, c2, rfl, rfl, rfl, rfl, rfl, Lib.hid ⟨NX.out.1, NX.out.2.1, NX.out.2.2.1, NX.out.2.2.2.1, NX.out.2.2.2.2.1, NX.out.2.2.2.2.2, H.out.2.2.2.2.2.2⟩, W2, b2⟩
        case measure => show (300 - ol) + _ < (300 - n') + _; have := MS.out; omega
    · obtain ⟨b1, o1, x1, e1, hbq, hx1, cx⟩ := R.atU (k := at_) hlt
      obtain ⟨rfl, rfl⟩ : bq = b1 ∧ oq = o1 := by simpa using e1
      obtain rfl : x1 = x := by have h1 := drop_more hx1; rw [hd] at h1; injection h1 with h1 _; exact h1.symm
      subst z2
      have hlt2 : at_ + 1 < n := by have := HRL.out; rw [List.length_cons] at this; omega
      obtain ⟨b2, o2, y1, e2, _, hy1, cy⟩ := R.atU (k := at_ + 1) hlt2
      obtain ⟨rfl, rfl⟩ : bq = b2 ∧ oq = o2 := by simpa using e2
      obtain rfl : y1 = y := by
        have h1 := drop_more hy1
        have h2 := Pk.drop_more (b := b) (i := at_) (x := [x1]) (r := y :: r') hd
        rw [List.length_singleton, h1] at h2
        injection h2 with h2 _
      rw [← Nat.add_assoc] at cy
      obtain ⟨ci, hci⟩ : ∃ z : Int, (x1.toNat : Int) = z := ⟨_, rfl⟩
      obtain ⟨di, hdi⟩ : ∃ z : Int, (y1.toNat : Int) = z := ⟨_, rfl⟩
      rw [hci] at cx
      rw [hdi] at cy
      have hx256 := x1.toNat_lt
      have hy256 := y1.toNat_lt
      have t1 : decide ((192 : Int) ≤ ci) = true := decide_eq_true (by omega)
      obtain ⟨a2, ha2⟩ : ∃ k : Nat, at_ + 2 = k := ⟨_, rfl⟩
      obtain ⟨q1, q2⟩ := atp_fit ha2 (show ((2 : Nat) : Int) = 2 from rfl) (by have := HN.out; omega)
      obtain ⟨jn, hjn⟩ : ∃ k : Nat, x1.toNat - 192 = k := ⟨_, rfl⟩
      obtain ⟨to_, hto⟩ : ∃ k : Nat, jn * 256 + y1.toNat = k := ⟨_, rfl⟩
      have hor := or_jump (a := jn) (d := y1.toNat) (by omega) (by omega)
      rw [hto, hdi] at hor
      obtain ⟨m1, hm1⟩ : ∃ z : Int, ci - 192 = z := ⟨_, rfl⟩
      obtain ⟨m2, hm2⟩ : ∃ z : Int, ((jn * 256 : Nat) : Int) = z := ⟨_, rfl⟩
      rw [hm2] at hor
      have p0 : IntKind.u8.wrap (ci - 192) = m1 := u8_in (by omega) hm1 (by omega)
      have p0' : (ci - 192) % 256 = m1 := by omega
      have p1 : IntKind.i64.wrap m1 = m1 := IntWalk.i64_in _ (by omega)
      have p2 : wrap64 (m1 * 2 ^ 8) = m2 := by unfold wrap64; omega
      have p2' : wrap64 (m1 * 256) = m2 := by unfold wrap64; omega
      have p2'' : IntKind.i64.wrap (m1 * 256) = m2 := by rw [show m1 * 256 = m2 by omega]; exact IntWalk.i64_in _ (by omega)
      have p3 : IntKind.i64.wrap di = di := IntWalk.i64_in _ (by omega)
      have HPP := Lib.hid (And.intro p0 (And.intro p0' (And.intro p1 (And.intro p2 (And.intro p2' (And.intro p2'' (And.intro p3 hor)))))))
      obtain ⟨u1, u2⟩ := atp_fit (i := j) (s := 1) (si := 1) (t := j + 1) rfl rfl (by have := H.out.2; omega)
      have HQ := Lib.hid (And.intro q1 (And.intro q2 (And.intro u1 u2)))
      have NT : Hid ((x1.toNat - 192) * 256 + y1.toNat = to_ ∧ at_ + 2 = a2) := Lib.hid ⟨by rw [hjn]; exact hto, ha2⟩
      have A2N : Hid (a2 ≤ n) := Lib.hid (by omega)
      have m10 : 0 ≤ m1 := by omega
      have HZ1 := Lib.hid z1
      have hto0 : (0 : Int) ≤ (to_ : Int) := by omega
      have h15 : Hid ((st ≤ to_ ∨ 16 ≤ j) → Pk.nameAt b (i : Int) = ([], 0, 15)) := Lib.hid (fun hh => by rw [H.out.1, Pk.nf_loop HD.out HZ1.out (by rw [NT.out.1]; exact hh)])
      have hgo : Hid (¬ (st ≤ to_ ∨ 16 ≤ j) → Pk.nameAt b (i : Int) = Pk.nameF f' b out to_ to_ (some (nx.getD a2)) (j + 1)) := Lib.hid (fun hh => by rw [H.out.1, Pk.nf_jump HD.out HZ1.out (by rw [NT.out.1]; exact hh), NT.out.1, NT.out.2])
      have hj16 : j ≤ 16 := H.out.2.2.2.1
      clear hd z1 hlt e1 e2 hx1 hy1 q1 q2 u1 u2 p0 p0' p1 p2 p2' p2'' p3 hor hjn hto hm1 hm2 hci hdi hx256 hy256 ha2 hlt2 hatn
      by_cases hj : j = 0
      · subst hj
        by_cases hb : st ≤ to_
        · have r1 : decide ((st : Int) ≤ (to_ : Int)) = true := decide_eq_true (by omega)
          have r1' : decide (st ≤ to_) = true := decide_eq_true hb
          have Z : Hid (Pk.nameAt b (i : Int) = ([], 0, 15)) := Lib.hid (h15.out (Or.inl hb))
          clear hb hj16
          obtain ⟨q1, q2, u1, u2⟩ := HQ.out
          obtain ⟨p0, p0', p1, p2, p2', p2'', p3, hor⟩ := HPP.out
          go_wp2
          go_quiet (fail)
          go_wp2
          go_ret3
          exact ⟨by rw [Z.out]; rfl, by first | exact bw | exact kdrewB bw _⟩
        have r1 : decide ((st : Int) ≤ (to_ : Int)) = false := decide_eq_false (by omega)
        have r1' : decide (st ≤ to_) = false := decide_eq_false hb
        have hb2 : (0 : Nat) ≠ 16 := by omega
        have NXT := Lib.hid (hgo.out (fun hh => by rcases hh with hh | hh; exact hb hh; omega))
        have JJ : Hid (0 + 1 ≤ 16 ∧ 300 ≤ f' + n' + (0 + 1) ∧ n' ≤ 254 ∧ to_ ≤ n) := Lib.hid ⟨by omega, by have := H.out.2; omega, H.out.2.2.1, by have := H.out.2.2.2.2.2.1; omega⟩
        clear hb hb2 hj16
        obtain ⟨q1, q2, u1, u2⟩ := HQ.out
        obtain ⟨p0, p0', p1, p2, p2', p2'', p3, hor⟩ := HPP.out
        go_wp2
        go_quiet (fail)
        go_wp2
        go_roundw
        case rel => exact ⟨f', out, to_, to_, some (nx.getD a2), 0 + 1, (a2 : Int), A', n', c', rfl, rfl, rfl, rfl, by go_num, Lib.hid ⟨NXT.out, JJ.out.2.1, JJ.out.2.2.1, JJ.out.1, JJ.out.2.2.2, JJ.out.2.2.2, Or.inr ⟨by omega, a2, by rw [H.out.2.2.2.2.2.2.zero]; rfl, rfl⟩⟩, by first | exact hw | exact hw.grown (row := none) ⟨rfl, rfl, rfl, Nat.le_refl _, fun _ _ _ => rfl⟩ (fun _ _ => by simp), by first | exact bw | exact kdrewB bw _⟩
        case measure => simp [intOf, lenS]
      · have t3 : ((j : Int) == 0) = false := beq_eq_false_iff_ne.2 (by omega)
        have t3' : (j == 0) = false := beq_eq_false_iff_ne.2 hj
        have HJ := Lib.hid hj
        clear hj
        by_cases hb : st ≤ to_
        · have r1 : decide ((st : Int) ≤ (to_ : Int)) = true := decide_eq_true (by omega)
          have r1' : decide (st ≤ to_) = true := decide_eq_true hb
          have Z : Hid (Pk.nameAt b (i : Int) = ([], 0, 15)) := Lib.hid (h15.out (Or.inl hb))
          clear hb hj16
          obtain ⟨q1, q2, u1, u2⟩ := HQ.out
          obtain ⟨p0, p0', p1, p2, p2', p2'', p3, hor⟩ := HPP.out
          go_wp2
          go_quiet (fail)
          go_wp2
          go_ret3
          exact ⟨by rw [Z.out]; rfl, by first | exact bw | exact kdrewB bw _⟩
        have r1 : decide ((st : Int) ≤ (to_ : Int)) = false := decide_eq_false (by omega)
        have r1' : decide (st ≤ to_) = false := decide_eq_false hb
        by_cases hb2 : j = 16
        · have r2 : ((j : Int) == 16) = true := beq_iff_eq.2 (by omega)
          have r2' : (j == 16) = true := beq_iff_eq.2 hb2
          have Z : Hid (Pk.nameAt b (i : Int) = ([], 0, 15)) := Lib.hid (h15.out (Or.inr (by omega)))
          clear hb hb2 hj16
          obtain ⟨q1, q2, u1, u2⟩ := HQ.out
          obtain ⟨p0, p0', p1, p2, p2', p2'', p3, hor⟩ := HPP.out
          go_wp2
          go_quiet (fail)
          go_wp2
          go_ret3
          exact ⟨by rw [Z.out]; rfl, by first | exact bw | exact kdrewB bw _⟩
        have r2 : ((j : Int) == 16) = false := beq_eq_false_iff_ne.2 (by omega)
        have r2' : (j == 16) = false := beq_eq_false_iff_ne.2 hb2
        have NXT := Lib.hid (hgo.out (fun hh => by rcases hh with hh | hh; exact hb hh; omega))
        have JJ : Hid (j + 1 ≤ 16 ∧ 300 ≤ f' + n' + (j + 1) ∧ n' ≤ 254 ∧ to_ ≤ n) := Lib.hid ⟨by omega, by have := H.out.2; omega, H.out.2.2.1, by have := H.out.2.2.2.2.2.1; omega⟩
        clear hb hb2 hj16
        obtain ⟨q1, q2, u1, u2⟩ := HQ.out
        obtain ⟨p0, p0', p1, p2, p2', p2'', p3, hor⟩ := HPP.out
        go_wp2
        go_quiet (fail)
        go_wp2
        go_roundw
        case rel => exact ⟨f', out, to_, to_, some (nx.getD a2), j + 1, nv, A', n', c', rfl, rfl, rfl, rfl, by go_num, Lib.hid ⟨NXT.out, JJ.out.2.1, JJ.out.2.2.1, JJ.out.1, JJ.out.2.2.2, JJ.out.2.2.2, (by obtain ⟨k, hk1, hk2⟩ := H.out.2.2.2.2.2.2.more HJ.out; exact Or.inr ⟨by omega, k, by rw [hk1]; rfl, hk2⟩)⟩, by first | exact hw | exact hw.grown (row := none) ⟨rfl, rfl, rfl, Nat.le_refl _, fun _ _ _ => rfl⟩ (fun _ _ => by simp), by first | exact bw | exact kdrewB bw _⟩
        case measure => have := JJ.out.1; simp [intOf, lenS]; omega
end Go.Proofs.Ytbioblknhfmelaa

