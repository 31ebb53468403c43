/- VRef2 CMath Base CInts CRef QMath (merged). -/
import Derived.Test.YtmbfldcmiabccaaGreatDoorChecked
import Derived.Lib.SlBytesConst
import Derived.Laws.IdiomStrings
import Derived.Deep.QuietTactic
import Derived.BigQuiet
import Derived.Deep.AppendLies
import Derived.Deep.DeepCutAuto
import Derived.Lib.AppendZeros
import Derived.Lib.LazyBuf
import Derived.Shelf.Abstract
import Derived.LoopN
import Derived.Below
import Derived.Test.YtmbfldcmiabccaaGreatDoorJF00
import Derived.Test.YtmbfldcmiabccaaGreatDoorJF04
namespace Go.Proofs.YtmbfldcmiabccaaGreatDoor
set_option linter.unusedVariables false
set_option linter.unusedSimpArgs false
open Go.RowKit

theorem vget_at {l : List Nv} {i : Nat} {x : Nv} {k : Int} (h : l[i]? = some x) (hk : x.node = k) (hno : ∀ y ∈ l.take i, y.node ≠ k) : V.get (l.map Nv.nm) k = some x.v.s := by
  induction l generalizing i with
  | nil => simp at h
  | cons y r ih =>
    rw [List.map_cons, V.get_cons]
    cases i with
    | zero =>
      obtain rfl : y = x := by simpa using h
      rw [if_pos (show (Nv.nm y).node = k from hk)]; rfl
    | succ i =>
      have h1 : y.node ≠ k := hno y (by rw [List.take_succ_cons]; exact List.mem_cons_self ..)
      rw [if_neg (show ¬ (Nv.nm y).node = k from h1)]
      exact ih (by simpa using h) (fun z hz => hno z (by rw [List.take_succ_cons]; exact List.mem_cons_of_mem _ hz))
theorem vget_none {l : List Nv} {k : Int} (hno : ∀ y ∈ l, y.node ≠ k) : V.get (l.map Nv.nm) k = none := by
  induction l with
  | nil => rfl
  | cons y r ih =>
    rw [List.map_cons, V.get_cons, if_neg (show ¬ (Nv.nm y).node = k from hno y (List.mem_cons_self ..))]
    exact ih fun z hz => hno z (List.mem_cons_of_mem _ hz)
/-- a state, and whether it is there -/
def MadeG (W : World) (r : Option St) (e : Ending) (w' : World) : Prop :=
  ∃ v : Sv, e = .returned (.tuple #[sv v, .bool r.isSome]) ∧ v.s = r.getD ⟨0, 0, []⟩ ∧ SRd w' v ∧ Below W.heap.size W w'
/-- .. and its table lies in a block of its own -/
def MadeGF (W : World) (r : Option St) (e : Ending) (w' : World) : Prop :=
  ∃ v : Sv, e = .returned (.tuple #[sv v, .bool r.isSome]) ∧ v.s = r.getD ⟨0, 0, []⟩ ∧ (SRd w' v ∧ Fresh W.heap.size v) ∧ Below W.heap.size W w'

set_option maxHeartbeats 2000000 in
set_option maxRecDepth 20000 in
theorem rvgetF_any (U : Vw) (node : Int) (w : World) (h : VRd w U) (hn : U.n ≤ 1000) (hf : VFit U) :
    Calls Tryz.prog 44 #[vval U, .int .i64 node] w (MadeGF w (V.get U.view node)) := by
  obtain ⟨l, A, n, c⟩ := U
  have hl := h.len
  simp only at hn hl hf
  have HL := Lib.hid hl
  have HF := Lib.hid hf
  clear hl hf
  simp only [vval]
  have Z := Box.new w #[.int .i64 0, .int .i64 0, .slice none 0 0] 51
  have b1 : Below w.heap.size w (w.alloc (.cells #[.int .i64 0, .int .i64 0, .slice none 0 0] 51)) := (Below.refl _ _).alloc (Nat.le_refl _) _
  have h1 := h.allocH (.cells #[.int .i64 0, .int .i64 0, .slice none 0 0] 51)
  have hs1 : w.heap.size < (w.alloc (.cells #[.int .i64 0, .int .i64 0, .slice none 0 0] 51)).heap.size := by simp
  have hat : ∀ k, k < n → _ := fun k hk => h.at hk
  have HAT := Lib.hid hat
  clear h hat
  go_enter Tryz.func44, Tryz.ntmps44
  go_wp2_with fail
  generalize w.alloc (.cells #[.int .i64 0, .int .i64 0, .slice none 0 0] 51) = w1 at *
  have z0 := Z.at 0 rfl
  have z1 := Z.at 1 rfl
  have z2 := Z.at 2 rfl
  have zf := Z.cold
  go_loop [6] (fun i => ∃ k : Nat, k ≤ n ∧ i = .int .i64 k ∧ ∀ y ∈ l.take k, y.node ≠ node) (fun i => n - (intOf i).toNat)
  case atStart => exact ⟨0, by omega, rfl, by simp⟩
  case round =>
    obtain ⟨k, hk, rfl, hno⟩ := hrel
    have HN := Lib.hid hno
    clear hno
    by_cases hlt : k < n
    · obtain ⟨b, o, x, e1, hb, hx, hsr, c0, c1', c2, c3⟩ := h1.at hlt
      simp only at e1 hx
      subst e1
      have hk0 : (0 : Int) ≤ (k : Int) := by omega
      have hfx := HF.out x (List.mem_of_getElem? hx)
      have HX := Lib.hid hx
      clear hx
      by_cases he : x.node = node
      · have hg := vget_at HX.out he HN.out
        have HG := Lib.hid hg
        have t1 : (x.node == node) = true := beq_iff_eq.2 he
        clear hg he
        go_wp2_with fail
        refine (rscopy_any x.v _ hsr (by omega)).mono ?_
        rintro e w2 ⟨⟨s2, A2, n2, c2'⟩, rfl, hs2, hown, hb2⟩
        simp only at hs2
        subst hs2
        have Z2 := Z.below hb2 hs1
        have y0 := Z2.at 0 rfl
        have y1 := Z2.at 1 rfl
        have y2 := Z2.at 2 rfl
        have yf := Z2.cold
        have yz := Z2.lt
        have hb3 := b1.trans (hb2.mono b1.size)
        have hown' : w2.ownsRow w1.heap.size 48 3 (.slice A2 n2 c2') n2 (EC x.v.s.apps) := hown
        clear hb2 z0 z1 z2 zf c0 c1' c2 c3 hown
        simp only [sv]
        go_wp2
        refine bodyPost_ret (v := .tuple #[sv ⟨x.v.s, A2, n2, c2'⟩, .bool true]) (by simp [results, Tryz.results44, go_sem, y0, y1, y2, yz, sv]; try rfl) rfl ?_
        refine ⟨⟨x.v.s, A2, n2, c2'⟩, ?_, ?_, ?_, ?_⟩
        · rw [show V.get (Vw.view ⟨l, some ⟨b, o, none⟩, n, c⟩) node = some x.v.s from HG.out]; rfl
        · rw [show V.get (Vw.view ⟨l, some ⟨b, o, none⟩, n, c⟩) node = some x.v.s from HG.out]; rfl
        · refine ⟨?_, fresh_own (v := ⟨x.v.s, A2, n2, c2'⟩) hown' (by omega)⟩
          refine Rd.of_own (base := w1.heap.size) (e := 48) (c := c2') ?_
          show World.ownsRow _ _ _ 3 (.slice A2 n2 c2') n2 (EC x.v.s.apps)
          repeat (first | (with_reducible exact hown') | (with_reducible refine own_set ?_ (by omega) _))
        · repeat (first | (with_reducible exact hb3) | (with_reducible refine below_set ?_ (by omega) _))
      · have t1 : (x.node == node) = false := beq_eq_false_iff_ne.2 he
        have HE := Lib.hid he
        clear he
        go_wp2
        go_round
        case rel =>
          refine ⟨k + 1, by omega, by go_num, fun y hy => ?_⟩
          rw [take_more HX.out] at hy
          rcases List.mem_append.1 hy with hy | hy
          · exact HN.out y hy
          · obtain rfl : y = x := by simpa using hy
            exact HE.out
        case measure => simp [intOf]; omega
    · have hg : V.get (l.map Nv.nm) node = none := vget_none (by have := HN.out; rwa [List.take_of_length_le (by have := HL.out; omega)] at this)
      have HG := Lib.hid hg
      have zz := Z.lt
      clear hg
      go_wp2
      refine bodyPost_ret (v := .tuple #[sv ⟨⟨0, 0, []⟩, none, 0, 0⟩, .bool false]) (by simp [results, Tryz.results44, go_sem, z0, z1, z2, zz, sv]; try rfl) rfl ?_
      refine ⟨⟨⟨0, 0, []⟩, none, 0, 0⟩, ?_, ?_, ⟨Rd.zero _ _ _ _, fresh_zero _ _ _ _⟩, ?_⟩
      · rw [show V.get (Vw.view ⟨l, A, n, c⟩) node = none from HG.out]; rfl
      · rw [show V.get (Vw.view ⟨l, A, n, c⟩) node = none from HG.out]; rfl
      · repeat (first | (with_reducible exact b1) | (with_reducible refine below_set ?_ (by omega) _))

theorem rvget_any (U : Vw) (node : Int) (w : World) (h : VRd w U) (hn : U.n ≤ 1000) (hf : VFit U) :
    Calls Tryz.prog 44 #[vval U, .int .i64 node] w (MadeG w (V.get U.view node)) :=
  (rvgetF_any U node w h hn hf).mono fun e w' ⟨v, h1, h2, h3, h4⟩ => ⟨v, h1, h2, h3.1, h4⟩

def off (node : Int) (l : List Nv) : List Nv := l.filter fun x => !(x.node == node)
theorem vfit_apps {w : World} {U : Vw} (h : VRd w U) (hf : VFit U) {x : Nm} (hx : x ∈ U.view) : x.st.apps.length ≤ 4000 := by
  obtain ⟨y, hy, rfl⟩ := List.mem_map.1 hx
  have h1 := (h.2 y hy).len
  have h2 := hf y hy
  show y.v.s.apps.length ≤ _
  omega
theorem vget_short {w : World} {U : Vw} (h : VRd w U) (hf : VFit U) {k : Int} (o : Option St) (ho : V.get U.view k = o) : (o.getD ⟨0, 0, []⟩).apps.length ≤ 4000 := by
  rcases o with _ | s
  · show (0 : Nat) ≤ _; omega
  · exact vfit_apps h hf (V.get_mem ho)
end Go.Proofs.YtmbfldcmiabccaaGreatDoor

namespace Go.Proofs.YtmbfldcmiabccaaGreatDoor
set_option linter.unusedVariables false
set_option linter.unusedSimpArgs false
namespace Ch
def one (l : List Int) (d : Nat) : Int := l.getD (d % l.length) 0
def add (l : List Int) (n : Int) : List Int := if n ∈ l then l else l ++ [n]
/-- behind the first draw -/
def o1 (al : List Int) (p : Nat) : List Int := if al = [] then [] else [one al p]
/-- behind the second -/
def o2 (al dn : List Int) (q : Nat) (out : List Int) : List Int := if dn ≠ [] ∧ q % (al.length + 1) < dn.length then add out (one dn q) else out
/-- behind the third -/
def o3 (al sd : List Int) (p r : Nat) (out : List Int) : List Int := if sd ≠ [] ∧ (al = [] ∨ one al p ∉ sd ∨ al.length < sd.length) then add out (one sd r) else out
def round (al dn sd : List Int) (p q r : Nat) : List Int := o3 al sd p r (o2 al dn q (o1 al p))
def without (l : List Int) (n : Int) : List Int := l.filter fun x => decide (x ≠ n)
/-- where a number goes -/
def spot (out : List Int) (x : Int) : Nat := (out.takeWhile fun y => decide (y < x)).length
def ins (out : List Int) (x : Int) : List Int := if out[spot out x]? = some x then out else out.take (spot out x) ++ [x] ++ out.drop (spot out x)
def rising (l : List Int) : List Int := l.foldl ins []
/-! ### what goes -/
/-! ### rising -/
end Ch
end Go.Proofs.YtmbfldcmiabccaaGreatDoor

namespace Go.Proofs.YtmbfldcmiabccaaGreatDoor
open Go.RowKit
theorem u8T : SlT Tryz.prog 58 5 (.int .u8 0) 1 1 := ⟨Tryz.underlying58, by kernel_rfl, rfl, by omega⟩

/-! ### '[]byte(s)' -/
def strC (w : World) (s : ByteArray) : Nat := grownCap w s.size 0 5
def strO (w : World) (s : ByteArray) : Obj := .cells (bytesRow s (strC w s)) 5 ((bytesRow s (strC w s)).size, (bytesRow s (strC w s)).size + 1)
theorem run_bytes (w : World) (s : ByteArray) : (convert 9 58 (.string s)).run Tryz.prog w = .ok (.slice (some ⟨w.heap.size, 0, none⟩) s.size (strC w s)) (w.drew.alloc (strO w s)) :=
  run_bytes_of_string w 9 58 5 s Tryz.underlying9 Tryz.underlying58 Tryz.underlying5
theorem strC_ge (w : World) (s : ByteArray) : s.size ≤ strC w s := grownCap_ge w s.size 0 5
theorem strC_le (w : World) (s : ByteArray) (h : s.size ≤ maxLen) : strC w s ≤ maxLen := grownCap_le_maxLen w s.size 0 5 h
theorem Rd.bytes (w : World) (l : List UInt8) : Rd (w.drew.alloc (strO w (strB l))) (w.heap.size + 1) 1 (some ⟨w.heap.size, 0, none⟩) l.length (U l) := by
  refine ⟨by simp [U_length], fun _ => ⟨_, _, rfl, by omega, fun j hj => ?_⟩⟩
  rw [U_length] at hj
  have h1 := cell_of_row (w.drew.alloc (strO w (strB l))) w.heap.size j _ _ _ (heap_alloc_new w.drew _)
  have h2 := bytesRow_at (strB l) (strC w (strB l)) j (by simpa [strB] using hj)
  rw [Nat.zero_add, h1, h2, U_get, List.getElem?_eq_getElem hj]
  simp [strB]
end Go.Proofs.YtmbfldcmiabccaaGreatDoor

namespace Go.Proofs.YtmbfldcmiabccaaGreatDoor
set_option linter.unusedVariables false
set_option linter.unusedSimpArgs false
open Go.RowKit
theorem kdrewC {B : Nat} {w w' : World} (h : Below B w w') (q : Nat) : Below B w (w'.drewN q) := ⟨h.os, h.tape, h.output, h.size, h.block⟩
theorem i64C : SlT Tryz.prog 23 3 (.int .i64 0) 1 8 := ⟨Tryz.underlying23, by kernel_rfl, rfl, by omega⟩
set_option maxHeartbeats 1000000 in
theorem cints_any (l l' : List Int) (A A' : Option Addr) (n n' c c' B B' : Nat) (w : World) (h : Rd w B 1 A n (I l)) (h' : Rd w B' 1 A' n' (I l')) (hn : n ≤ 1000) :
    Calls Tryz.prog 11 #[.slice A n c, .slice A' n' c'] w fun e w' => e = .returned (.bool (decide (l = l'))) ∧ ∃ q, w' = w.drewN q := by
  have hl : l.length = n := by have := h.len1; rwa [I_length] at this
  have hl' : l'.length = n' := by have := h'.len1; rwa [I_length] at this
  have HL := Lib.hid hl
  have HL' := Lib.hid hl'
  clear hl hl'
  by_cases hnn : n = n'
  · subst hnn
    go_enter Tryz.func11, Tryz.ntmps11
    go_wp2
    go_loopw [5] (fun i wr => ∃ k q : Nat, k ≤ n ∧ i = .int .i64 k ∧ l.take k = l'.take k ∧ wr = w.drewN q) (fun i _ => n - (intOf i).toNat)
    case atStart => exact ⟨0, 0, by omega, rfl, rfl, rfl⟩
    case round =>
      obtain ⟨k, q, hk, rfl, hno, rfl⟩ := hrel
      have HN := Lib.hid hno
      clear hno
      by_cases hlt : k < n
      · obtain ⟨b, o, x, e1, hb, hx, c0⟩ := h.atI hlt
        obtain ⟨b', o', y, e2, hb', hy, d0⟩ := h'.atI hlt
        subst e1 e2
        have HX := Lib.hid hx
        have HY := Lib.hid hy
        clear hx hy
        have hk0 : (0 : Int) ≤ (k : Int) := by omega
        by_cases hxy : x = y
        · subst hxy
          go_wp2
          go_quiet (fail)
          go_wp2
          go_roundw
          case rel => exact ⟨k + 1, q + nq, by omega, by go_num, by rw [take_more HX.out, take_more HY.out, HN.out], by simp⟩
          case measure => simp [intOf]; omega
        · have hne : l ≠ l' := fun e => by
            have h1 := HX.out
            rw [e, HY.out] at h1
            injection h1 with h1
            exact hxy h1.symm
          have HNE := Lib.hid hne
          have t1 : (x != y) = true := bne_iff_ne.2 hxy
          clear hne hxy
          go_wp2
          go_quiet (fail)
          go_wp2
          go_ret
          exact ⟨ret_bool (decide_eq_false HNE.out).symm, q + nq, by simp⟩
      · have he : l = l' := by
          have h1 := HN.out
          rwa [List.take_of_length_le (by have := HL.out; omega), List.take_of_length_le (by have := HL'.out; omega)] at h1
        have HE := Lib.hid he
        clear he
        go_wp2
        go_ret
        exact ⟨ret_bool (decide_eq_true HE.out).symm, q, rfl⟩
  · have t1 : ((n : Int) != (n' : Int)) = true := by rw [bne_iff_ne]; omega
    have hne : l ≠ l' := fun e => by
      have h1 := HL.out
      rw [e, HL'.out] at h1
      exact hnn h1.symm
    have HNE := Lib.hid hne
    clear hne hnn
    go_enter Tryz.func11, Tryz.ntmps11
    go_wp2
    go_ret
    exact ⟨ret_bool (decide_eq_false HNE.out).symm, 0, rfl⟩

end Go.Proofs.YtmbfldcmiabccaaGreatDoor

namespace Go.Proofs.YtmbfldcmiabccaaGreatDoor
set_option linter.unusedVariables false
set_option linter.unusedSimpArgs false
open Go.RowKit
theorem rchas_any (l : List Int) (x : Int) (A : Option Addr) (n c B : Nat) (w : World) (h : Rd w B 1 A n (I l)) (hn : n ≤ 1000000) :
    Calls Tryz.prog 30 #[.slice A n c, .int .i64 x] w fun e w' => e = .returned (.bool (decide (x ∈ l))) ∧ w = w' := by
  have hl : l.length = n := by have := h.len1; rwa [I_length] at this
  have HL := Lib.hid hl
  clear hl
  go_enter Tryz.func30, Tryz.ntmps30
  go_wp2
  go_loop [5] (fun i => ∃ k : Nat, k ≤ n ∧ i = .int .i64 k ∧ x ∉ l.take k) (fun i => n - (intOf i).toNat)
  case atStart => exact ⟨0, by omega, rfl, by simp⟩
  case round =>
    obtain ⟨k, hk, rfl, hno⟩ := hrel
    have HN := Lib.hid hno
    clear hno
    by_cases hlt : k < n
    · obtain ⟨b, o, y, e1, hb, hx, c0⟩ := h.atI hlt
      subst e1
      have HX := Lib.hid hx
      clear hx
      have hk0 : (0 : Int) ≤ (k : Int) := by omega
      by_cases hxy : y = x
      · subst hxy
        have HM : Hid (decide (y ∈ l) = true) := Lib.hid (decide_eq_true (List.mem_of_getElem? HX.out))
        go_wp2
        go_ret
        exact ⟨ret_bool HM.out.symm, rfl⟩
      · have t1 : (y == x) = false := beq_eq_false_iff_ne.2 hxy
        have HNE := Lib.hid hxy
        clear hxy
        go_wp2
        go_round
        case rel => exact ⟨k + 1, by omega, by go_num, by rw [take_more HX.out]; intro hm; rcases List.mem_append.1 hm with hm | hm; exact HN.out hm; (have h2 : x = y := (by simpa using hm)); exact HNE.out h2.symm⟩
        case measure => simp [intOf]; omega
    · have HM : Hid (decide (x ∈ l) = false) := Lib.hid (decide_eq_false (by have h1 := HN.out; rwa [List.take_of_length_le (by have := HL.out; omega)] at h1))
      go_wp2
      go_ret
      exact ⟨ret_bool HM.out.symm, rfl⟩
end Go.Proofs.YtmbfldcmiabccaaGreatDoor

namespace Go.Proofs.YtmbfldcmiabccaaGreatDoor
namespace Q

/-- how many bytes a number has (9 at most are asked) -/
def szf : Nat → Nat → Nat
  | 0, _ => 1
  | f + 1, n => if n < 128 then 1 else 1 + szf f (n / 128)
def sz (n : Nat) : Nat := szf 8 n

/-- a number's bytes -/
def encf : Nat → Nat → List Nat
  | 0, n => [n]
  | f + 1, n => if n < 128 then [n] else (n % 128 + 128) :: encf f (n / 128)
def enc (n : Nat) : List Nat := encf 8 n

def may (n : Int) : Prop := 0 ≤ n ∧ n ≤ 4611686018427387904
instance (n : Int) : Decidable (may n) := by unfold may; exact inferInstance
def size (n : Int) : Nat := if may n then sz n.toNat else 0
def bytes (n : Int) : List Nat := if may n then enc n.toNat else []

/-- a number's bytes, as bytes -/
def ub (n : Int) : List UInt8 := (bytes n).map UInt8.ofNat
theorem szf_le (f n : Nat) : szf f n ≤ f + 1 := by
  induction f generalizing n with
  | zero => simp [szf]
  | succ f ih => simp only [szf]; split; omega; have := ih (n / 128); omega
theorem length_encf (f n : Nat) : (encf f n).length = szf f n := by
  induction f generalizing n with
  | zero => simp [szf, encf]
  | succ f ih => simp only [szf, encf]; split; rfl; simp [ih]; omega
theorem length_enc (n : Nat) : (enc n).length = sz n := length_encf 8 n
theorem length_bytes (n : Int) : (bytes n).length = size n := by
  unfold bytes size; split; exact length_enc _; rfl
theorem size_le (n : Int) : size n ≤ 9 := by
  unfold size; split; exact szf_le 8 _; omega

theorem length_ub (n : Int) : (ub n).length = size n := by simp [ub, length_bytes]
/-- a text's bytes -/
def txt (s : ByteArray) : List UInt8 := ub s.size ++ s.data.toList
theorem length_txt (s : ByteArray) : (txt s).length = size s.size + s.size := by
  simp only [txt, List.length_append, length_ub]; rfl
/-- a stage of counting: c counted, x left -/
def SzAt (n : Nat) (c x : Nat) : Prop := ∃ f, f ≤ 8 ∧ c = 9 - f ∧ x < 128 ^ (f + 1) ∧ szf 8 n = 8 - f + szf f x
theorem szAt_start (n : Nat) (h : n ≤ 4611686018427387904) : SzAt n 1 n := ⟨8, by omega, by omega, by simp only [Nat.reducePow, Nat.reduceAdd]; omega, by omega⟩
theorem szAt_step {n c x : Nat} (h : SzAt n c x) (hx : 127 < x) : SzAt n (c + 1) (x / 128) := by
  obtain ⟨f, hf, rfl, hb, he⟩ := h
  cases f with
  | zero => simp only [Nat.reduceAdd, Nat.pow_one] at hb; omega
  | succ f =>
    refine ⟨f, by omega, by omega, ?_, ?_⟩
    · have : x < 128 ^ (f + 1) * 128 := by rw [← Nat.pow_succ]; exact hb
      omega
    · rw [he]; simp only [szf]; rw [if_neg (by omega)]; omega
theorem szAt_end {n c x : Nat} (h : SzAt n c x) (hx : x < 128) : sz n = c := by
  obtain ⟨f, hf, rfl, hb, he⟩ := h
  unfold sz; rw [he]
  cases f with
  | zero => simp [szf]
  | succ f => simp only [szf]; rw [if_pos hx]; omega
theorem szAt_le {n c x : Nat} (h : SzAt n c x) : c ≤ 9 ∧ x ≤ 9223372036854775807 := by
  obtain ⟨f, hf, rfl, hb, he⟩ := h
  refine ⟨by omega, ?_⟩
  have : 128 ^ (f + 1) ≤ 128 ^ (8 + 1) := Nat.pow_le_pow_right (by omega) (by omega)
  simp only [Nat.reduceAdd, Nat.reducePow] at this
  omega

/-- a stage of laying: l laid, x left -/
def LayAt (n : Nat) (l : List Nat) (x : Nat) : Prop := ∃ f, f ≤ 8 ∧ l.length = 8 - f ∧ x < 128 ^ (f + 1) ∧ encf 8 n = l ++ encf f x
theorem layAt_start (n : Nat) (h : n ≤ 4611686018427387904) : LayAt n [] n := ⟨8, by omega, rfl, by simp only [Nat.reducePow, Nat.reduceAdd]; omega, rfl⟩
theorem layAt_step {n x : Nat} {l : List Nat} (h : LayAt n l x) (hx : 127 < x) : LayAt n (l ++ [x % 128 + 128]) (x / 128) := by
  obtain ⟨f, hf, hl, hb, he⟩ := h
  cases f with
  | zero => simp only [Nat.reduceAdd, Nat.pow_one] at hb; omega
  | succ f =>
    refine ⟨f, by omega, by simp; omega, ?_, ?_⟩
    · have : x < 128 ^ (f + 1) * 128 := by rw [← Nat.pow_succ]; exact hb
      omega
    · rw [he]; simp only [encf]; rw [if_neg (by omega)]; simp
theorem layAt_end {n x : Nat} {l : List Nat} (h : LayAt n l x) (hx : x < 128) : enc n = l ++ [x] := by
  obtain ⟨f, hf, hl, hb, he⟩ := h
  unfold enc; rw [he]
  cases f with
  | zero => simp [encf]
  | succ f => simp only [encf]; rw [if_pos hx]
theorem layAt_le {n x : Nat} {l : List Nat} (h : LayAt n l x) : l.length ≤ 8 ∧ x ≤ 9223372036854775807 := by
  obtain ⟨f, hf, hl, hb, he⟩ := h
  refine ⟨by omega, ?_⟩
  have : 128 ^ (f + 1) ≤ 128 ^ (8 + 1) := Nat.pow_le_pow_right (by omega) (by omega)
  simp only [Nat.reduceAdd, Nat.reducePow] at this
  omega
theorem ub_end {n : Int} {x : Nat} {l : List Nat} (hn : may n) (h : LayAt n.toNat l x) (hx : x < 128) : ub n = l.map UInt8.ofNat ++ [UInt8.ofNat x] ∧ size n = l.length + 1 := by
  have e := layAt_end h hx
  refine ⟨by simp [ub, bytes, hn, e], ?_⟩
  simp only [size, if_pos hn, ← length_enc, e]; simp

/-! ### Taking -/
/-- (the error's number, the number, how many bytes) -/
def tk : Nat → Nat → Nat → Nat → List UInt8 → Nat × Nat × Nat
  | 0, _, _, _, _ => (3, 0, 0)
  | _ + 1, _, _, _, [] => (2, 0, 0)
  | f + 1, c, acc, unit, x :: r =>
    if 128 ≤ x.toNat then tk f (c + 1) (acc + x.toNat % 128 * unit) (unit * 128) r
    else if size ((acc + x.toNat % 128 * unit : Nat) : Int) = c + 1 then (0, acc + x.toNat % 128 * unit, c + 1) else (3, 0, 0)
def take (l : List UInt8) : Nat × Nat × Nat := tk 9 0 0 1 l
/-- what is behind -/
def rest (l : List UInt8) : List UInt8 := if (take l).1 = 0 then l.drop (take l).2.2 else []
/-- a stage of taking: k bytes read, which sum up to acc -/
def TakeAt (l : List UInt8) (k acc : Nat) : Prop := k ≤ 9 ∧ acc < 128 ^ k ∧ take l = tk (9 - k) k acc (128 ^ k) (l.drop k)
theorem takeAt_start (l : List UInt8) : TakeAt l 0 0 := ⟨by omega, by omega, rfl⟩
theorem takeAt_acc {l : List UInt8} {k acc : Nat} (h : TakeAt l k acc) : acc < 9223372036854775808 := by
  obtain ⟨h1, h2, _⟩ := h
  have : 128 ^ k ≤ 128 ^ 9 := Nat.pow_le_pow_right (by omega) h1
  simp only [Nat.reducePow] at this
  omega
theorem takeAt_unit {k : Nat} (h : k ≤ 8) : 128 ^ k ≤ 72057594037927936 := by
  have : 128 ^ k ≤ 128 ^ 8 := Nat.pow_le_pow_right (by omega) h
  simpa using this
theorem takeAt_next {k acc x : Nat} (h : acc < 128 ^ k) : acc + x % 128 * 128 ^ k < 128 ^ (k + 1) := by
  rw [Nat.pow_succ]
  have h1 : x % 128 ≤ 127 := by omega
  have h2 : x % 128 * 128 ^ k ≤ 127 * 128 ^ k := Nat.mul_le_mul_right _ h1
  omega
theorem takeAt_more {l : List UInt8} {k acc : Nat} {x : UInt8} (h : TakeAt l k acc) (hk : k < 9) (hx : l[k]? = some x) (hb : 128 ≤ x.toNat) : TakeAt l (k + 1) (acc + x.toNat % 128 * 128 ^ k) := by
  obtain ⟨h1, h2, h3⟩ := h
  have hd : l.drop k = x :: l.drop (k + 1) := by
    have hlt : k < l.length := by
      rcases Nat.lt_or_ge k l.length with h | h
      · exact h
      · rw [List.getElem?_eq_none h] at hx; cases hx
    rw [List.drop_eq_getElem_cons hlt]
    rw [List.getElem?_eq_getElem hlt] at hx
    injection hx with hx; rw [hx]
  refine ⟨by omega, takeAt_next h2, ?_⟩
  rw [h3, hd, show 9 - k = (9 - (k + 1)) + 1 by omega]
  simp only [tk]
  rw [if_pos hb, Nat.pow_succ]
theorem takeAt_short {l : List UInt8} {k acc : Nat} (h : TakeAt l k acc) (hk : k < 9) (hl : l.length ≤ k) : take l = (2, 0, 0) := by
  obtain ⟨h1, h2, h3⟩ := h
  rw [h3, List.drop_of_length_le hl, show 9 - k = (9 - (k + 1)) + 1 by omega]; rfl
theorem takeAt_long {l : List UInt8} {acc : Nat} (h : TakeAt l 9 acc) : take l = (3, 0, 0) := by
  obtain ⟨h1, h2, h3⟩ := h
  rw [h3]; rfl
theorem takeAt_end {l : List UInt8} {k acc : Nat} {x : UInt8} (h : TakeAt l k acc) (hk : k < 9) (hx : l[k]? = some x) (hb : x.toNat < 128) :
    take l = if size ((acc + x.toNat % 128 * 128 ^ k : Nat) : Int) = k + 1 then (0, acc + x.toNat % 128 * 128 ^ k, k + 1) else (3, 0, 0) := by
  obtain ⟨h1, h2, h3⟩ := h
  have hd : l.drop k = x :: l.drop (k + 1) := by
    have hlt : k < l.length := by
      rcases Nat.lt_or_ge k l.length with h | h
      · exact h
      · rw [List.getElem?_eq_none h] at hx; cases hx
    rw [List.drop_eq_getElem_cons hlt]
    rw [List.getElem?_eq_getElem hlt] at hx
    injection hx with hx; rw [hx]
  rw [h3, hd, show 9 - k = (9 - (k + 1)) + 1 by omega]
  simp only [tk]
  rw [if_neg (by omega)]

/-- (the error's number, the text, what is behind) -/
def taketext (l : List UInt8) (most : Int) : Nat × List UInt8 × List UInt8 :=
  if (take l).1 ≠ 0 then ((take l).1, [], [])
  else if most < (take l).2.1 then (4, [], [])
  else if (rest l).length < (take l).2.1 then (2, [], [])
  else (0, (rest l).take (take l).2.1, (rest l).drop (take l).2.1)

end Q
end Go.Proofs.YtmbfldcmiabccaaGreatDoor

