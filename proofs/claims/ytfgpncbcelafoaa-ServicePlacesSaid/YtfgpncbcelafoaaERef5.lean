/- The reference's Put. -/
import Derived.Test.YtfgpncbcelafoaaERef4
namespace Go.Proofs.Ytfgpncbcelafoaa
set_option linter.unusedVariables false
set_option linter.unusedSimpArgs false
open Go.RowKit

/-- how far Put has come: x is not put yet, or it is -/
def Putting (l : List Ent) (x : Ent) (k : Nat) (p : Bool) (O : List Ent) : Prop :=
  (p = false ∧ O = l.take k ∧ ∀ y ∈ l.take k, y.key < x.key) ∨ (p = true ∧ O = E.put (l.take k) x ∧ ∃ y ∈ l.take k, x.key ≤ y.key)
theorem Putting.start (l : List Ent) (x : Ent) : Putting l x 0 false [] := Or.inl ⟨rfl, rfl, by simp⟩
theorem Putting.len {l O : List Ent} {x : Ent} {k : Nat} (h : Putting l x k false O) : O.length ≤ k := by
  rcases h with ⟨_, rfl, _⟩ | ⟨e, _⟩
  · rw [List.length_take]; omega
  · cases e
theorem Putting.lower {l O : List Ent} {x y : Ent} {k : Nat} (h : Putting l x k false O) (hy : l[k]? = some y) (hlt : y.key < x.key) : Putting l x (k + 1) false (O ++ [y]) := by
  rcases h with ⟨_, rfl, ha⟩ | ⟨e, _⟩
  · refine Or.inl ⟨rfl, (take_more hy).symm, fun z hz => ?_⟩
    rw [take_more hy] at hz
    rcases List.mem_append.1 hz with hz | hz
    · exact ha z hz
    · obtain rfl : z = y := by simpa using hz
      exact hlt
  · cases e
theorem Putting.same {l O : List Ent} {x y : Ent} {k : Nat} (h : Putting l x k false O) (hy : l[k]? = some y) (he : y.key = x.key) : Putting l x (k + 1) true (O ++ [x]) := by
  rcases h with ⟨_, rfl, ha⟩ | ⟨e, _⟩
  · refine Or.inr ⟨rfl, ?_, y, by rw [take_more hy]; simp, by omega⟩
    rw [take_more hy, E.put_at ha [] (by omega), if_pos he]
  · cases e
theorem Putting.upper {l O : List Ent} {x y : Ent} {k : Nat} (h : Putting l x k false O) (hy : l[k]? = some y) (hlt : x.key < y.key) : Putting l x (k + 1) true (O ++ [x] ++ [y]) := by
  rcases h with ⟨_, rfl, ha⟩ | ⟨e, _⟩
  · refine Or.inr ⟨rfl, ?_, y, by rw [take_more hy]; simp, by omega⟩
    rw [take_more hy, E.put_at ha [] (by omega), if_neg (by omega)]
    simp
  · cases e
theorem Putting.more {l O : List Ent} {x y : Ent} {k : Nat} (h : Putting l x k true O) (hy : l[k]? = some y) : Putting l x (k + 1) true (O ++ [y]) := by
  rcases h with ⟨e, _⟩ | ⟨_, rfl, z, hz, hzx⟩
  · cases e
  · refine Or.inr ⟨rfl, ?_, z, by rw [take_more hy]; simp [hz], hzx⟩
    rw [take_more hy, E.put_snoc ⟨z, hz, hzx⟩]
theorem Putting.great {l O : List Ent} {x y : Ent} {k : Nat} (h : Putting l x k true O) (hr : E.rising l) (hy : l[k]? = some y) : x.key < y.key := by
  rcases h with ⟨e, _⟩ | ⟨_, rfl, z, hz, hzx⟩
  · cases e
  · obtain ⟨i, hi, rfl⟩ := List.mem_iff_getElem.1 hz
    have hi2 : i < k := by rw [List.length_take] at hi; omega
    have := E.rising_at hr hi2 (x := (l.take k)[i]) (by rw [List.getElem_take]; exact List.getElem?_eq_getElem _) hy
    omega
theorem Putting.endF {l O : List Ent} {x : Ent} {k : Nat} (h : Putting l x k false O) (hk : l.length ≤ k) : O ++ [x] = E.put l x := by
  rcases h with ⟨_, rfl, ha⟩ | ⟨e, _⟩
  · rw [List.take_of_length_le hk] at *
    rw [E.put_lt ha]
  · cases e
theorem Putting.endT {l O : List Ent} {x : Ent} {k : Nat} (h : Putting l x k true O) (hk : l.length ≤ k) : O = E.put l x := by
  rcases h with ⟨e, _⟩ | ⟨_, rfl, _⟩
  · cases e
  · rw [List.take_of_length_le hk]

theorem below_dn {B : Nat} {a w : World} (h : Below B a w) (q : Nat) : Below B a (w.drewN q) := ⟨h.os, h.tape, h.output, h.size, h.block⟩
theorem own_dn {w : World} {base e size n : Nat} {v : Value} {xs : List Value} (h : w.ownsRow base e size v n xs) (q : Nat) : (w.drewN q).ownsRow base e size v n xs := h
/-- an entry behind a row of the call's own -/
theorem push_law {w : World} {ops : Array Oper} {rest : List Oper} {o : Oper} {a : Act} {Q : Exit → Act → World → Prop} (hgd : o.guard = none) (s x : Operand)
    (ho : o.op = .call { callee := .builtin .append, args := #[s, x], argTypes := #[33, 33] })
    (base : Nat) {A : Option Addr} {m c : Nat} {O : List Ent} {y : Ent} (hs : a.eval s = .slice A m c) (hx : a.eval x = .slice (some ⟨w.heap.size, 0, none⟩) 1 1)
    (hown : w.ownsRow base 40 3 (.slice A m c) m (EC O)) (hm : m ≤ 4000000) (hbase : base ≤ w.heap.size)
    (h : ∀ A' c' w', w'.ownsRow base 40 3 (.slice A' (m + 1) c') (m + 1) (EC (O ++ [y])) → Below base w w' → wpList Try.prog ops Q rest (a.put o.dst (.slice A' (m + 1) c')) w') :
    wpList Try.prog ops Q (o :: rest) a (w.alloc (.cells #[.int .i64 y.key, .int .i64 y.ver, .string (strB y.val)] 40)) := by
  refine app_law enT hgd s x ho base hs (hown.alloc _) hx (Rd.lit w _ _ 3 1 rfl) (by simp [Value.oneCell']) (by omega) (by omega) (by simp; omega) fun A2 c2 w2 ap => ?_
  refine h A2 c2 w2 ?_ (below_app ((Below.refl _ _).alloc hbase _) (hown.alloc _) ap.grown (Nat.le_refl _) (by simp; omega))
  rw [EC_append]
  exact ap.own

/-- a table that was made: what Put, Join, Above answer -/
def Made (W : World) (l : List Ent) (e : Ending) (w' : World) : Prop :=
  ∃ A' n' c', e = .returned (.slice A' n' c') ∧ n' = l.length ∧ w'.ownsRow W.heap.size 40 3 (.slice A' n' c') n' (EC l) ∧ Below W.heap.size W w'

set_option maxHeartbeats 4000000 in
set_option maxRecDepth 20000 in
theorem rput_any (l : List Ent) (x : Ent) (A : Option Addr) (n c B : Nat) (w : World) (h : Rd w B 3 A n (EC l)) (hB : B ≤ w.heap.size) (hn : n ≤ 1000000) (hrise : E.rising l) :
    Calls Try.prog 19 #[.slice A n c, ev x] w (Made w (E.put l x)) := by
  have hl := h.lenE
  have HL := Lib.hid hl
  have HR := Lib.hid hrise
  clear hl hrise
  simp only [ev]
  go_enter Try.func19, Try.ntmps19
  go_wp2_with fail
  have hb1 : Below w.heap.size w (w.alloc (.cells #[.int .i64 x.key, .int .i64 x.ver, .string (strB x.val)] 40)) := (Below.refl _ _).alloc (Nat.le_refl _) _
  have X := Box.new w #[.int .i64 x.key, .int .i64 x.ver, .string (strB x.val)] 40
  have h1 := h.alloc hB (.cells #[.int .i64 x.key, .int .i64 x.ver, .string (strB x.val)] 40)
  have hs1 : w.heap.size < (w.alloc (.cells #[.int .i64 x.key, .int .i64 x.ver, .string (strB x.val)] 40)).heap.size := by simp
  have HB1 := Lib.hid hb1
  generalize w.alloc (.cells #[.int .i64 x.key, .int .i64 x.ver, .string (strB x.val)] 40) = w1 at *
  clear hb1 h
  go_wp2
  go_loopw [5, 6, 7] (fun s p i wr => ∃ (k m : Nat) (A' : Option Addr) (c' : Nat) (b : Bool) (O : List Ent), k ≤ n ∧ i = .int .i64 k ∧ p = .bool b ∧ m ≤ k + 1 ∧ s = .slice A' m c' ∧ Putting l x k b O ∧ m = O.length ∧
      wr.ownsRow w1.heap.size 40 3 (.slice A' m c') m (EC O) ∧ Below w1.heap.size w1 wr) (fun _ _ i _ => n - (intOf i).toNat)
  case atStart => exact ⟨0, 0, none, 0, false, [], by omega, rfl, rfl, by omega, rfl, Putting.start l x, rfl, World.ownsRow_nil _ _ _ _, Below.refl _ _⟩
  case round =>
    obtain ⟨k, m, A1, c1, p, O, hk, rfl, rfl, hmk, rfl, hP, hm, hown, hbel⟩ := hrel
    have HP := Lib.hid hP
    have HM := Lib.hid hm
    have hbs := hbel.size
    have X2 := X.below hbel hs1
    have y0 := X2.at 0 rfl
    have y1 := X2.at 1 rfl
    have y2 := X2.at 2 rfl
    clear hP hm
    by_cases hlt : k < n
    · obtain ⟨b, o, y, e, hb, hy, d0, d1, d2⟩ := ((h1.below (hbel.mono (by omega)))).atE hlt
      subst e
      have HY := Lib.hid hy
      clear hy
      have hk0 : (0 : Int) ≤ (k : Int) := by omega
      have hbelD := fun q => below_dn hbel q
      have hownD := fun q => own_dn hown q
      have HBD := Lib.hid hbelD
      have HOD := Lib.hid hownD
      clear hbelD hownD
      cases p
      · by_cases hlow : y.key < x.key
        · have t1 : decide (x.key ≤ y.key) = false := decide_eq_false (by omega)
          have t2 : (y.key != x.key) = true := by rw [bne_iff_ne]; omega
          have HLOW := Lib.hid hlow
          clear hlow
          go_wp2
          go_quiet (fail)
          go_wp2
          go_quiet (fail)
          go_wp2_with (refine push_law rfl (.tmp 38) (.tmp 43) rfl w1.heap.size rfl rfl (HOD.out _) (by omega) (by show w1.heap.size ≤ wr.heap.size; omega) ?_; rintro A2 c2 w2 hown2 hb2)
          go_roundw
          case rel => exact ⟨k + 1, m + 1, A2, c2, false, O ++ [y], by omega, by go_num, rfl, by omega, rfl, HP.out.lower HY.out HLOW.out, by rw [List.length_append, HM.out]; rfl, hown2, (HBD.out _).trans hb2⟩
          case measure => simp [intOf]; omega
        · by_cases he : y.key = x.key
          · have t1 : decide (x.key ≤ y.key) = true := decide_eq_true (by omega)
            have t2 : (y.key != x.key) = false := by rw [bne_eq_false_iff_eq]; exact he
            have HE := Lib.hid he
            clear he hlow
            go_wp2
            go_quiet (fail)
            go_wp2_with (refine push_law (y := x) rfl (.tmp 26) (.tmp 28) rfl w1.heap.size rfl rfl (HOD.out _) (by omega) (by show w1.heap.size ≤ wr.heap.size; omega) ?_; rintro A2 c2 w2 hown2 hb2; have X3 := X.below ((HBD.out _).trans hb2) hs1; have z0 := X3.at 0 rfl; have e0 := (hb2.cell (p := ⟨b, o + k * 3, none⟩) (by show b < w1.heap.size; omega)).trans d0)
            go_quiet (fail)
            go_wp2
            go_roundw
            case rel => exact ⟨k + 1, m + 1, A2, c2, true, O ++ [x], by omega, by go_num, rfl, by omega, rfl, HP.out.same HY.out HE.out, by rw [List.length_append, HM.out]; rfl, own_dn hown2 _, below_dn ((HBD.out _).trans hb2) _⟩
            case measure => simp [intOf]; omega
          · have t1 : decide (x.key ≤ y.key) = true := decide_eq_true (by omega)
            have t2 : (y.key != x.key) = true := by rw [bne_iff_ne]; exact he
            have hgt : x.key < y.key := by omega
            have HE := Lib.hid hgt
            have hmk2 : m ≤ k := by have := HP.out.len; have := HM.out; omega
            clear he hlow hgt
            go_wp2
            go_quiet (fail)
            go_wp2_with (refine push_law (y := x) rfl (.tmp 26) (.tmp 28) rfl w1.heap.size rfl rfl (HOD.out _) (by omega) (by show w1.heap.size ≤ wr.heap.size; omega) ?_; rintro A2 c2 w2 hown2 hb2; have X3 := X.below ((HBD.out _).trans hb2) hs1; have z0 := X3.at 0 rfl; have e0 := (hb2.cell (p := ⟨b, o + k * 3, none⟩) (by show b < w1.heap.size; omega)).trans d0; have e1 := (hb2.cell (p := ⟨b, o + k * 3 + 1, none⟩) (by show b < w1.heap.size; omega)).trans d1; have e2 := (hb2.cell (p := ⟨b, o + k * 3 + 2, none⟩) (by show b < w1.heap.size; omega)).trans d2; have hbel2 := (HBD.out _).trans hb2; have hbs2 := hbel2.size; clear hb2 y0 y1 y2 d0 d1 d2)
            go_quiet (fail)
            go_wp2_with (refine push_law (y := y) rfl (.tmp 38) (.tmp 43) rfl w1.heap.size rfl rfl (own_dn hown2 _) (by omega) (by show w1.heap.size ≤ w2.heap.size; omega) ?_; rintro A3 c3 w3 hown3 hb3)
            go_roundw
            case rel => exact ⟨k + 1, m + 1 + 1, A3, c3, true, O ++ [x] ++ [y], by omega, by go_num, rfl, by omega, rfl, HP.out.upper HY.out HE.out, by rw [List.length_append, List.length_append, HM.out]; rfl, hown3, (below_dn hbel2 _).trans hb3⟩
            case measure => simp [intOf]; omega
      · have hgt := HP.out.great HR.out HY.out
        have t2 : (y.key != x.key) = true := by rw [bne_iff_ne]; omega
        have t1 : decide (x.key ≤ y.key) = true := decide_eq_true (by omega)
        clear hgt
        go_wp2
        go_quiet (fail)
        go_wp2
        go_quiet (fail)
        go_wp2_with (refine push_law rfl (.tmp 38) (.tmp 43) rfl w1.heap.size rfl rfl (HOD.out _) (by omega) (by show w1.heap.size ≤ wr.heap.size; omega) ?_; rintro A2 c2 w2 hown2 hb2)
        go_roundw
        case rel => exact ⟨k + 1, m + 1, A2, c2, true, O ++ [y], by omega, by go_num, rfl, by omega, rfl, HP.out.more HY.out, by rw [List.length_append, HM.out]; rfl, hown2, (HBD.out _).trans hb2⟩
        case measure => simp [intOf]; omega
    · have hkn : l.length ≤ k := by have := HL.out; omega
      have HKN := Lib.hid hkn
      clear hkn
      cases p
      · go_wp2_with (refine push_law (y := x) rfl (.tmp 47) (.tmp 49) rfl w1.heap.size rfl rfl hown (by omega) (by omega) ?_; rintro A2 c2 w2 hown2 hb2)
        go_ret
        refine ⟨A2, m + 1, c2, rfl, ?_, ?_, HB1.out.trans ((hbel.trans hb2).mono (by omega))⟩
        · rw [← HP.out.endF HKN.out, List.length_append, HM.out]; rfl
        · rw [← HP.out.endF HKN.out]; exact own_mono hown2 (by omega)
      · go_wp2
        go_ret
        refine ⟨A1, m, c1, rfl, ?_, ?_, HB1.out.trans (hbel.mono (by omega))⟩
        · rw [← HP.out.endT HKN.out, HM.out]
        · rw [← HP.out.endT HKN.out]; exact own_mono hown (by omega)
end Go.Proofs.Ytfgpncbcelafoaa
