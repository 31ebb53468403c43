/- OC4 OC5 OCI TRef4 TRef5 TGreat (merged). -/
import Derived.Handy
import Derived.Test.YtmbfldcmiabccaaGreatDoorJF04
import Derived.Test.YtmbfldcmiabccaaGreatDoorJF05
import Derived.Test.YtmbfldcmiabccaaGreatDoorJF12
import Derived.Test.YtmbfldcmiabccaaGreatDoorJF15
namespace Go.Proofs.YtmbfldcmiabccaaGreatDoor
set_option linter.unusedVariables false
set_option linter.unusedSimpArgs false
open Go.RowKit
theorem dec_one {k : Nat} (h : k < 8) : Lib.decDigits k = [UInt8.ofNat (48 + k)] := by
  match k, h with
  | 0, _ => rw [Lib.decDigits]; rfl
  | 1, _ => rw [Lib.decDigits]; rfl
  | 2, _ => rw [Lib.decDigits]; rfl
  | 3, _ => rw [Lib.decDigits]; rfl
  | 4, _ => rw [Lib.decDigits]; rfl
  | 5, _ => rw [Lib.decDigits]; rfl
  | 6, _ => rw [Lib.decDigits]; rfl
  | 7, _ => rw [Lib.decDigits]; rfl
theorem hostN_outO {dom : List UInt8} {n : Int} (h : n < 0 ∨ 7 < n) : Zo.hostN dom n = ([], false) := by unfold Zo.hostN; rw [if_pos h]
theorem hostN_inO {dom : List UInt8} {n : Int} (h : ¬ (n < 0 ∨ 7 < n)) : Zo.hostN dom n = Zo.ahead dom [Zo.hostL n] := by unfold Zo.hostN; rw [if_neg h]
set_option maxHeartbeats 2000000 in
theorem ohost0_any (v0 v1 : Value) (h0 : v0.oneCell' = true) (h1 : v1.oneCell' = true) (dom : List UInt8) (node : Int) (w : World) (hd : dom.length ≤ 1000) :
    Calls Tryz.prog 7 #[.agg #[v0, v1, .string (strB dom)], .int .i64 node] w (TxB (Zo.hostN dom node).1 (Zo.hostN dom node).2 w) := by
  have X := Box.new w #[v0, v1, .string (strB dom)] 25
  have b1 := (Below.refl w.heap.size w).alloc (Nat.le_refl _) (.cells #[v0, v1, .string (strB dom)] 25)
  have hsz : w.heap.size < (w.alloc (.cells #[v0, v1, .string (strB dom)] 25)).heap.size := by simp
  by_cases hl : node < 0
  · have A := Lib.hid (hostN_outO (dom := dom) (n := node) (Or.inl hl))
    have t1 : decide (node < 0) = true := decide_eq_true hl
    clear hl
    go_enter Tryz.func7, Tryz.ntmps7
    go_wp2
    go_ret2
    exact ⟨by rw [A.out]; rfl, b1⟩
  · by_cases hg : 8 ≤ node
    · have A := Lib.hid (hostN_outO (dom := dom) (n := node) (Or.inr (by omega)))
      have t1 : decide (node < 0) = false := decide_eq_false hl
      have t2 : decide (8 ≤ node) = true := decide_eq_true hg
      clear hl hg
      go_enter Tryz.func7, Tryz.ntmps7
      go_wp2
      go_ret2
      exact ⟨by rw [A.out]; rfl, b1⟩
    · obtain ⟨k, rfl⟩ : ∃ k : Nat, node = (k : Int) := ⟨node.toNat, by omega⟩
      have hk : k < 8 := by omega
      have A := Lib.hid (hostN_inO (dom := dom) (n := (k : Int)) (by omega))
      have t1 : decide ((k : Int) < 0) = false := decide_eq_false hl
      have t2 : decide (8 ≤ (k : Int)) = false := decide_eq_false hg
      have t2' : decide (8 ≤ k) = false := decide_eq_false (by omega)
      have CI := fun W => strconv_Itoa_small k (by omega) W
      rw [dec_one hk] at CI
      have hL : Zo.hostL (k : Int) = [110, UInt8.ofNat (48 + k)] := rfl
      generalize UInt8.ofNat (48 + k) = d at *
      have T2 : ∀ w, (Op.stringOp .add (⟨#[110]⟩ : ByteArray) (⟨[d].toArray⟩ : ByteArray)).run Tryz.prog w = .ok (.string (strB [110, d])) w := fun w => run_two (a := [110]) (b := [d]) (by simp)
      have HL := Lib.hid hL
      clear hl hg hL
      go_enter Tryz.func7, Tryz.ntmps7
      go_upto_region 3 with fail
      generalize w.alloc (.cells #[v0, v1, .string (strB dom)] 25) = w0 at *
      have c2 := X.at 2 rfl
      refine wp_region_held_drew (S := (fun w' => w'.cell? ⟨w.heap.size, 2, none⟩ = some (.string (strB dom)))) (by kernel_rfl) (by exact c2) (fun hHeld0 => ?_)
      refine tk 0 12 rfl hHeld0 ?_
      refine tk 1 13 rfl hHeld0 ?_
      refine tk 2 14 rfl hHeld0 ?_
      refine wpAnyH_ready (rs := [3]) (by kernel_rfl) (by simp) (AllReadyH.cons (o := ⟨some 15, _, _, _, _, _⟩) rfl (fun K hK => ?_) AllReadyH.nil)
      go_simp
      refine (CI _).mono ?_
      rintro e w2 ⟨rfl, rfl⟩
      go_simp
      refine hK.out _ _ (by exact c2) (fun hHeld1 => ?_)
      clear hK hHeld0 K
      try simp only [Act.put, sA, sB, sC]
      refine tk 4 16 rfl hHeld1 ?_
      refine wpAnyH_ready (rs := [5]) (by kernel_rfl) (by simp) (AllReadyH.cons (o := ⟨some 17, _, _, _, _, _⟩) rfl (fun K hK => ?_) AllReadyH.nil)
      go_simp
      have XL := X.drew.alloc (.cells #[.string (strB [110, d])] 9)
      have bL := (Below.refl w0.heap.size w0).drew.alloc (Nat.le_refl _) (.cells #[.string (strB [110, d])] 9)
      have RL : Rd (w0.drew.alloc (.cells #[.string (strB [110, d])] 9)) (w0.drew.alloc (.cells #[.string (strB [110, d])] 9)).heap.size 1 (some ⟨w0.heap.size, 0, none⟩) 1 (Tt [[110, d]]) := (Rd.one w0.drew (.string (strB [110, d])) 9).more (by simp)
      replace c2 := XL.at 2 rfl
      go_simp
      refine hK.out _ _ (by exact c2) (fun hHeld2 => ?_)
      clear hK hHeld1 K
      try simp only [Act.put, sA, sB, sC]
      refine wpAnyH_ready (rs := [6]) (by kernel_rfl) (by simp) (AllReadyH.cons (o := ⟨some 18, _, _, _, _, _⟩) rfl (fun K hK => ?_) AllReadyH.nil)
      go_simp
      refine (oahead_any dom [[110, d]] _ 1 1 _ RL (by omega) (by simp) hd).mono ?_
      rintro e w5 ⟨rfl, hb5⟩
      replace c2 := (XL.below hb5 (by simp; omega)).at 2 rfl
      have b9 := bL.trans (hb5.mono bL.size)
      go_simp
      refine hK.out _ _ (by exact c2) (fun hHeld3 => ?_)
      clear hK hHeld2 K
      try simp only [Act.put, sA, sB, sC]
      refine tk 7 19 rfl hHeld3 ?_
      refine tk 8 20 rfl hHeld3 ?_
      refine tk 9 4 rfl hHeld3 ?_
      refine tk 10 5 rfl hHeld3 ?_
      refine wpAnyH_done (by kernel_rfl) ?_ _
      go_wp2
      go_ret2
      exact ⟨by rw [A.out, HL.out]; rfl, b1.trans (b9.mono b1.size)⟩
theorem ohost_any (s : Sn) (y : Int) (w : World) (h : SnRd w s) (ha : SnArg s) : Calls Tryz.prog 7 #[snval s, .int .i64 y] w (TxB (Zo.hostN s.dom y).1 (Zo.hostN s.dom y).2 w) := ohost0_any _ _ rfl rfl s.dom y w ha.ok.dom
def rccs (name : List UInt8) (typ : Int) (d : List UInt8) : Array Value := #[.string (strB name), .int .i64 typ, .int .i64 1, .int .i64 5, .string (strB d)]
theorem orecord_any (name : List UInt8) (typ : Int) (d : List UInt8) (w : World) : Calls Tryz.prog 26 #[.string (strB name), .int .i64 typ, .string (strB d)] w fun e w' => e = .returned (.agg (rccs name typ d)) ∧ Below w.heap.size w w' := by
  have X := Box.new w #[.string ⟨#[]⟩, .int .i64 0, .int .i64 0, .int .i64 0, .string ⟨#[]⟩] 32
  have b1 := (Below.refl w.heap.size w).alloc (Nat.le_refl _) (.cells #[.string ⟨#[]⟩, .int .i64 0, .int .i64 0, .int .i64 0, .string ⟨#[]⟩] 32)
  have hs : w.heap.size < (w.alloc (.cells #[.string ⟨#[]⟩, .int .i64 0, .int .i64 0, .int .i64 0, .string ⟨#[]⟩] 32)).heap.size := by simp
  go_enter Tryz.func26, Tryz.ntmps26
  go_upto_region 1 with fail
  generalize w.alloc (.cells #[.string ⟨#[]⟩, .int .i64 0, .int .i64 0, .int .i64 0, .string ⟨#[]⟩] 32) = w1 at *
  have c0 := X.at 0 rfl
  have c1 := X.at 1 rfl
  have c2 := X.at 2 rfl
  have c3 := X.at 3 rfl
  have c4 := X.at 4 rfl
  have xf := X.cold
  have Y := ((((X.set 0 (.string (strB name))).set 1 (.int .i64 typ)).set 2 (.int .i64 1)).set 3 (.int .i64 5)).set 4 (.string (strB d))
  have y0 := Y.at 0 rfl
  have y1 := Y.at 1 rfl
  have y2 := Y.at 2 rfl
  have y3 := Y.at 3 rfl
  have y4 := Y.at 4 rfl
  go_wp2
  refine bodyPost_ret (v := .agg (rccs name typ d)) (by simp [results, Tryz.results26, go_sem, y0, y1, y2, y3, y4, hs, rccs]; try rfl) rfl ⟨rfl, ?_⟩
  repeat (first | (with_reducible exact b1) | (with_reducible refine below_set ?_ (Nat.le_refl _) _))
end Go.Proofs.YtmbfldcmiabccaaGreatDoor

namespace Go.Proofs.YtmbfldcmiabccaaGreatDoor
set_option linter.unusedVariables false
set_option linter.unusedSimpArgs false
open Go.RowKit
theorem flat_moreO {α β : Type} (f : α → List β) {l : List α} {k : Nat} {x : α} (h : l[k]? = some x) : (l.take (k + 1)).flatMap f = (l.take k).flatMap f ++ f x := by rw [take_more h, List.flatMap_append]; simp
theorem U_oneO (l : List UInt8) : ∀ u ∈ U l, u.oneCell' = true := by
  intro u hu
  obtain ⟨x, _, rfl⟩ := List.mem_map.1 hu
  rfl
set_option maxHeartbeats 4000000 in
set_option maxRecDepth 20000 in
theorem onum2_any (l : List Int) (A : Option Addr) (n c : Nat) (w : World) (h : Rd w w.heap.size 1 A n (I l)) (hn : n ≤ 1000) (hv : ∀ v ∈ l, 0 ≤ v ∧ v ≤ 9223372036854775807) :
    Calls Tryz.prog 60 #[.int .i64 2, .slice A n c] w (TxO (l.flatMap fun v => Pk.b2 v.toNat) w) := by
  have hl : l.length = n := by have := h.len1; rwa [I_length] at this
  have HL := Lib.hid hl
  have HV := Lib.hid hv
  clear hl hv
  go_enter Tryz.func60, Tryz.ntmps60
  go_wp2
  go_loopw [5, 11] (fun o i wr => ∃ (k : Nat) (A1 : Option Addr) (m1 c1 : Nat) (t : List UInt8), k ≤ n ∧ o = .slice A1 m1 c1 ∧ i = .int .i64 (k : Int) ∧ Hid (t = (l.take k).flatMap fun v => Pk.b2 v.toNat) ∧ m1 ≤ 2 * k ∧ wr.ownsRow w.heap.size 5 1 (.slice A1 m1 c1) m1 (U t) ∧ Below w.heap.size w wr) (fun _ i _ => n - (intOf i).toNat)
  case atStart => exact ⟨0, none, 0, 0, [], Nat.zero_le _, rfl, rfl, Lib.hid rfl, by simp, World.ownsRow_nil _ _ _ _, Below.refl _ _⟩
  case round =>
    obtain ⟨k, A1, m1, c1, t, hk, rfl, rfl, HT, ht, own, b⟩ := hrel
    by_cases hlt : k < n
    · obtain ⟨bq, oq, v, rfl, hbq, hx, c0⟩ := (h.belowH b).atI hlt
      have HX := Lib.hid hx
      have hvv := HV.out v (List.mem_of_getElem? hx)
      have hk0 : (0 : Int) ≤ (k : Int) := by omega
      clear hx
      obtain ⟨x1, hx1⟩ : ∃ x, UInt8.ofNat (v.toNat / 256) = x := ⟨_, rfl⟩
      have e1 : Hid (((x1.toNat : Nat) : Int) = v / 256 % 256) := Lib.hid (by rw [← hx1, UInt8.toNat_ofNat']; omega)
      obtain ⟨x0, hx0⟩ : ∃ x, UInt8.ofNat (v.toNat) = x := ⟨_, rfl⟩
      have e0 : Hid (((x0.toNat : Nat) : Int) = v % 256) := Lib.hid (by rw [← hx0, UInt8.toNat_ofNat']; omega)
      have HB : Hid (Pk.b2 v.toNat = [x1, x0]) := Lib.hid (by unfold Pk.b2; rw [hx1, hx0])
      clear hx1 hx0
      generalize wr = wo at *
      go_wp2
      go_loopw [5, 8] (fun o i wr => ∃ (A2 : Option Addr) (m2 c2 : Nat) (u : List UInt8), o = .slice A2 m2 c2 ∧ wr.ownsRow w.heap.size 5 1 (.slice A2 m2 c2) m2 (U u) ∧ Below w.heap.size w wr ∧ m2 ≤ m1 + 2 ∧ ((i = .int .i64 1 ∧ Hid (u = t ++ []) ∧ Hid (m2 = m1 + 0)) ∨ (i = .int .i64 0 ∧ Hid (u = t ++ [x1]) ∧ Hid (m2 = m1 + 1)) ∨ (i = .int .i64 (-1) ∧ Hid (u = t ++ [x1, x0]) ∧ Hid (m2 = m1 + 2)))) (fun _ i _ => (intOf i + 1).toNat)
      case atStart => exact ⟨A1, m1, c1, t, rfl, own, b, by omega, Or.inl ⟨by go_num, Lib.hid (by simp), Lib.hid rfl⟩⟩
      case round =>
        obtain ⟨A2, m2, c2, u, rfl, own2, b2, hm2, hi⟩ := hrel
        have bs2 := b2.size
        clear own b c0
        rcases hi with ⟨rfl, HU, hu⟩ | ⟨rfl, HU, hu⟩ | ⟨rfl, HU, hu⟩
        · have R1 : Rd (wr.alloc (.cells #[.int .u8 (v / 256 % 256)] 5)) (wr.heap.size + 1) 1 (some ⟨wr.heap.size, 0, none⟩) 1 (U [x1]) := by rw [show U [x1] = [.int .u8 (v / 256 % 256)] by rw [← e1.out]; rfl]; exact Rd.one wr _ _
          have hm : (m2 + 1) * 1 ≤ 140737488355328 := by omega
          go_wp2_with (at_builtin; refine app_law u8T rfl (.tmp 21) (.tmp 27) rfl w.heap.size rfl (own2.alloc _) rfl R1 (U_oneO _) hm (by omega) (by simp; omega) ?_; rintro A3 c3 w3 ⟨own3, hg3, _, _⟩)
          go_roundw
          case rel => exact ⟨A3, _, c3, u ++ [x1], rfl, by rw [show U (u ++ [x1]) = U u ++ U [x1] by simp [U]]; exact own3, below_app (b2.alloc bs2 _) (own2.alloc _) hg3 (Nat.le_refl _) (by simp; omega), by have := hu.out; omega, Or.inr (Or.inl ⟨by go_num, Lib.hid (by rw [HU.out]; simp), Lib.hid (by have := hu.out; omega)⟩)⟩
          case measure => simp [intOf]
        · have R1 : Rd (wr.alloc (.cells #[.int .u8 (v % 256)] 5)) (wr.heap.size + 1) 1 (some ⟨wr.heap.size, 0, none⟩) 1 (U [x0]) := by rw [show U [x0] = [.int .u8 (v % 256)] by rw [← e0.out]; rfl]; exact Rd.one wr _ _
          have hm : (m2 + 1) * 1 ≤ 140737488355328 := by omega
          go_wp2_with (at_builtin; refine app_law u8T rfl (.tmp 21) (.tmp 27) rfl w.heap.size rfl (own2.alloc _) rfl R1 (U_oneO _) hm (by omega) (by simp; omega) ?_; rintro A3 c3 w3 ⟨own3, hg3, _, _⟩)
          go_roundw
          case rel => exact ⟨A3, _, c3, u ++ [x0], rfl, by rw [show U (u ++ [x0]) = U u ++ U [x0] by simp [U]]; exact own3, below_app (b2.alloc bs2 _) (own2.alloc _) hg3 (Nat.le_refl _) (by simp; omega), by have := hu.out; omega, Or.inr (Or.inr (⟨by go_num, Lib.hid (by rw [HU.out]; simp), Lib.hid (by have := hu.out; omega)⟩))⟩
          case measure => simp [intOf]
        · have HT2 : Hid (u = (l.take (k + 1)).flatMap fun v => Pk.b2 v.toNat) := Lib.hid (by rw [flat_moreO _ HX.out, HU.out, HT.out, HB.out])
          go_wp2
          go_roundw
          case rel => exact ⟨k + 1, A2, m2, c2, u, by omega, rfl, by go_num, HT2, by omega, own2, b2⟩
          case measure => simp [intOf]; omega
    · have E : Hid (l.take k = l) := Lib.hid (List.take_of_length_le (by have := HL.out; omega))
      have HE : Hid (t = l.flatMap fun v => Pk.b2 v.toNat) := Lib.hid (by rw [HT.out, E.out])
      have CV := run_str (P := Tryz.prog) 58 9 5 Tryz.underlying58 Tryz.underlying5 Tryz.underlying9 (c := c1) (Rd.of_own own)
      go_wp2
      go_ret
      exact ⟨by rw [← HE.out]; rfl, b⟩
set_option maxHeartbeats 4000000 in
set_option maxRecDepth 20000 in
theorem onum4_any (l : List Int) (A : Option Addr) (n c : Nat) (w : World) (h : Rd w w.heap.size 1 A n (I l)) (hn : n ≤ 1000) (hv : ∀ v ∈ l, 0 ≤ v ∧ v ≤ 9223372036854775807) :
    Calls Tryz.prog 60 #[.int .i64 4, .slice A n c] w (TxO (l.flatMap fun v => Pk.b4 v.toNat) w) := by
  have hl : l.length = n := by have := h.len1; rwa [I_length] at this
  have HL := Lib.hid hl
  have HV := Lib.hid hv
  clear hl hv
  go_enter Tryz.func60, Tryz.ntmps60
  go_wp2
  go_loopw [5, 11] (fun o i wr => ∃ (k : Nat) (A1 : Option Addr) (m1 c1 : Nat) (t : List UInt8), k ≤ n ∧ o = .slice A1 m1 c1 ∧ i = .int .i64 (k : Int) ∧ Hid (t = (l.take k).flatMap fun v => Pk.b4 v.toNat) ∧ m1 ≤ 4 * k ∧ wr.ownsRow w.heap.size 5 1 (.slice A1 m1 c1) m1 (U t) ∧ Below w.heap.size w wr) (fun _ i _ => n - (intOf i).toNat)
  case atStart => exact ⟨0, none, 0, 0, [], Nat.zero_le _, rfl, rfl, Lib.hid rfl, by simp, World.ownsRow_nil _ _ _ _, Below.refl _ _⟩
  case round =>
    obtain ⟨k, A1, m1, c1, t, hk, rfl, rfl, HT, ht, own, b⟩ := hrel
    by_cases hlt : k < n
    · obtain ⟨bq, oq, v, rfl, hbq, hx, c0⟩ := (h.belowH b).atI hlt
      have HX := Lib.hid hx
      have hvv := HV.out v (List.mem_of_getElem? hx)
      have hk0 : (0 : Int) ≤ (k : Int) := by omega
      clear hx
      obtain ⟨x3, hx3⟩ : ∃ x, UInt8.ofNat (v.toNat / 16777216) = x := ⟨_, rfl⟩
      have e3 : Hid (((x3.toNat : Nat) : Int) = v / 16777216 % 256) := Lib.hid (by rw [← hx3, UInt8.toNat_ofNat']; omega)
      obtain ⟨x2, hx2⟩ : ∃ x, UInt8.ofNat (v.toNat / 65536) = x := ⟨_, rfl⟩
      have e2 : Hid (((x2.toNat : Nat) : Int) = v / 65536 % 256) := Lib.hid (by rw [← hx2, UInt8.toNat_ofNat']; omega)
      obtain ⟨x1, hx1⟩ : ∃ x, UInt8.ofNat (v.toNat / 256) = x := ⟨_, rfl⟩
      have e1 : Hid (((x1.toNat : Nat) : Int) = v / 256 % 256) := Lib.hid (by rw [← hx1, UInt8.toNat_ofNat']; omega)
      obtain ⟨x0, hx0⟩ : ∃ x, UInt8.ofNat (v.toNat) = x := ⟨_, rfl⟩
      have e0 : Hid (((x0.toNat : Nat) : Int) = v % 256) := Lib.hid (by rw [← hx0, UInt8.toNat_ofNat']; omega)
      have HB : Hid (Pk.b4 v.toNat = [x3, x2, x1, x0]) := Lib.hid (by unfold Pk.b4; rw [hx3, hx2, hx1, hx0])
      clear hx3 hx2 hx1 hx0
      generalize wr = wo at *
      go_wp2
      go_loopw [5, 8] (fun o i wr => ∃ (A2 : Option Addr) (m2 c2 : Nat) (u : List UInt8), o = .slice A2 m2 c2 ∧ wr.ownsRow w.heap.size 5 1 (.slice A2 m2 c2) m2 (U u) ∧ Below w.heap.size w wr ∧ m2 ≤ m1 + 4 ∧ ((i = .int .i64 3 ∧ Hid (u = t ++ []) ∧ Hid (m2 = m1 + 0)) ∨ (i = .int .i64 2 ∧ Hid (u = t ++ [x3]) ∧ Hid (m2 = m1 + 1)) ∨ (i = .int .i64 1 ∧ Hid (u = t ++ [x3, x2]) ∧ Hid (m2 = m1 + 2)) ∨ (i = .int .i64 0 ∧ Hid (u = t ++ [x3, x2, x1]) ∧ Hid (m2 = m1 + 3)) ∨ (i = .int .i64 (-1) ∧ Hid (u = t ++ [x3, x2, x1, x0]) ∧ Hid (m2 = m1 + 4)))) (fun _ i _ => (intOf i + 1).toNat)
      case atStart => exact ⟨A1, m1, c1, t, rfl, own, b, by omega, Or.inl ⟨by go_num, Lib.hid (by simp), Lib.hid rfl⟩⟩
      case round =>
        obtain ⟨A2, m2, c2, u, rfl, own2, b2, hm2, hi⟩ := hrel
        have bs2 := b2.size
        clear own b c0
        rcases hi with ⟨rfl, HU, hu⟩ | ⟨rfl, HU, hu⟩ | ⟨rfl, HU, hu⟩ | ⟨rfl, HU, hu⟩ | ⟨rfl, HU, hu⟩
        · have R1 : Rd (wr.alloc (.cells #[.int .u8 (v / 16777216 % 256)] 5)) (wr.heap.size + 1) 1 (some ⟨wr.heap.size, 0, none⟩) 1 (U [x3]) := by rw [show U [x3] = [.int .u8 (v / 16777216 % 256)] by rw [← e3.out]; rfl]; exact Rd.one wr _ _
          have hm : (m2 + 1) * 1 ≤ 140737488355328 := by omega
          go_wp2_with (at_builtin; refine app_law u8T rfl (.tmp 21) (.tmp 27) rfl w.heap.size rfl (own2.alloc _) rfl R1 (U_oneO _) hm (by omega) (by simp; omega) ?_; rintro A3 c3 w3 ⟨own3, hg3, _, _⟩)
          go_roundw
          case rel => exact ⟨A3, _, c3, u ++ [x3], rfl, by rw [show U (u ++ [x3]) = U u ++ U [x3] by simp [U]]; exact own3, below_app (b2.alloc bs2 _) (own2.alloc _) hg3 (Nat.le_refl _) (by simp; omega), by have := hu.out; omega, Or.inr (Or.inl ⟨by go_num, Lib.hid (by rw [HU.out]; simp), Lib.hid (by have := hu.out; omega)⟩)⟩
          case measure => simp [intOf]
        · have R1 : Rd (wr.alloc (.cells #[.int .u8 (v / 65536 % 256)] 5)) (wr.heap.size + 1) 1 (some ⟨wr.heap.size, 0, none⟩) 1 (U [x2]) := by rw [show U [x2] = [.int .u8 (v / 65536 % 256)] by rw [← e2.out]; rfl]; exact Rd.one wr _ _
          have hm : (m2 + 1) * 1 ≤ 140737488355328 := by omega
          go_wp2_with (at_builtin; refine app_law u8T rfl (.tmp 21) (.tmp 27) rfl w.heap.size rfl (own2.alloc _) rfl R1 (U_oneO _) hm (by omega) (by simp; omega) ?_; rintro A3 c3 w3 ⟨own3, hg3, _, _⟩)
          go_roundw
          case rel => exact ⟨A3, _, c3, u ++ [x2], rfl, by rw [show U (u ++ [x2]) = U u ++ U [x2] by simp [U]]; exact own3, below_app (b2.alloc bs2 _) (own2.alloc _) hg3 (Nat.le_refl _) (by simp; omega), by have := hu.out; omega, Or.inr (Or.inr (Or.inl ⟨by go_num, Lib.hid (by rw [HU.out]; simp), Lib.hid (by have := hu.out; omega)⟩))⟩
          case measure => simp [intOf]
        · have R1 : Rd (wr.alloc (.cells #[.int .u8 (v / 256 % 256)] 5)) (wr.heap.size + 1) 1 (some ⟨wr.heap.size, 0, none⟩) 1 (U [x1]) := by rw [show U [x1] = [.int .u8 (v / 256 % 256)] by rw [← e1.out]; rfl]; exact Rd.one wr _ _
          have hm : (m2 + 1) * 1 ≤ 140737488355328 := by omega
          go_wp2_with (at_builtin; refine app_law u8T rfl (.tmp 21) (.tmp 27) rfl w.heap.size rfl (own2.alloc _) rfl R1 (U_oneO _) hm (by omega) (by simp; omega) ?_; rintro A3 c3 w3 ⟨own3, hg3, _, _⟩)
          go_roundw
          case rel => exact ⟨A3, _, c3, u ++ [x1], rfl, by rw [show U (u ++ [x1]) = U u ++ U [x1] by simp [U]]; exact own3, below_app (b2.alloc bs2 _) (own2.alloc _) hg3 (Nat.le_refl _) (by simp; omega), by have := hu.out; omega, Or.inr (Or.inr (Or.inr (Or.inl ⟨by go_num, Lib.hid (by rw [HU.out]; simp), Lib.hid (by have := hu.out; omega)⟩)))⟩
          case measure => simp [intOf]
        · have R1 : Rd (wr.alloc (.cells #[.int .u8 (v % 256)] 5)) (wr.heap.size + 1) 1 (some ⟨wr.heap.size, 0, none⟩) 1 (U [x0]) := by rw [show U [x0] = [.int .u8 (v % 256)] by rw [← e0.out]; rfl]; exact Rd.one wr _ _
          have hm : (m2 + 1) * 1 ≤ 140737488355328 := by omega
          go_wp2_with (at_builtin; refine app_law u8T rfl (.tmp 21) (.tmp 27) rfl w.heap.size rfl (own2.alloc _) rfl R1 (U_oneO _) hm (by omega) (by simp; omega) ?_; rintro A3 c3 w3 ⟨own3, hg3, _, _⟩)
          go_roundw
          case rel => exact ⟨A3, _, c3, u ++ [x0], rfl, by rw [show U (u ++ [x0]) = U u ++ U [x0] by simp [U]]; exact own3, below_app (b2.alloc bs2 _) (own2.alloc _) hg3 (Nat.le_refl _) (by simp; omega), by have := hu.out; omega, Or.inr (Or.inr (Or.inr (Or.inr (⟨by go_num, Lib.hid (by rw [HU.out]; simp), Lib.hid (by have := hu.out; omega)⟩))))⟩
          case measure => simp [intOf]
        · have HT2 : Hid (u = (l.take (k + 1)).flatMap fun v => Pk.b4 v.toNat) := Lib.hid (by rw [flat_moreO _ HX.out, HU.out, HT.out, HB.out])
          go_wp2
          go_roundw
          case rel => exact ⟨k + 1, A2, m2, c2, u, by omega, rfl, by go_num, HT2, by omega, own2, b2⟩
          case measure => simp [intOf]; omega
    · have E : Hid (l.take k = l) := Lib.hid (List.take_of_length_le (by have := HL.out; omega))
      have HE : Hid (t = l.flatMap fun v => Pk.b4 v.toNat) := Lib.hid (by rw [HT.out, E.out])
      have CV := run_str (P := Tryz.prog) 58 9 5 Tryz.underlying58 Tryz.underlying5 Tryz.underlying9 (c := c1) (Rd.of_own own)
      go_wp2
      go_ret
      exact ⟨by rw [← HE.out]; rfl, b⟩
end Go.Proofs.YtmbfldcmiabccaaGreatDoor

namespace Go.Proofs.YtmbfldcmiabccaaGreatDoor
set_option linter.unusedVariables false
set_option linter.unusedSimpArgs false
open Go.RowKit
theorem oindex_any (l : List Int) (x : Int) (A : Option Addr) (n c B : Nat) (w : World) (h : Rd w B 1 A n (I l)) (hn : n ≤ 1000000) :
    Calls Tryz.prog 82 #[.slice A n c, .int .i64 x] w fun e w' => (∃ i : Int, e = .returned (.int .i64 i) ∧ decide (0 ≤ i) = decide (x ∈ l) ∧ -1 ≤ i) ∧ w = w' := by
  have hl : l.length = n := by have := h.len1; rwa [I_length] at this
  have HL := Lib.hid hl
  clear hl
  go_enter Tryz.func82, Tryz.ntmps82
  go_wp2
  go_loop [8] (fun i => ∃ k : Nat, k ≤ n ∧ i = .int .i64 k ∧ x ∉ l.take k) (fun i => n - (intOf i).toNat)
  case atStart => exact ⟨0, by omega, rfl, by simp⟩
  case round =>
    obtain ⟨k, hk, rfl, hno⟩ := hrel
    have HN := Lib.hid hno
    clear hno
    by_cases hlt : k < n
    · obtain ⟨b, o, y, e1, hb, hx, c0⟩ := h.atI hlt
      subst e1
      have HX := Lib.hid hx
      clear hx
      have hk0 : (0 : Int) ≤ (k : Int) := by omega
      by_cases hxy : x = y
      · subst hxy
        have HM : Hid (decide (x ∈ l) = true) := Lib.hid (decide_eq_true (List.mem_of_getElem? HX.out))
        go_wp2
        go_ret
        exact ⟨⟨_, rfl, iff_of_true (by omega) (of_decide_eq_true HM.out), by omega⟩, rfl⟩
      · have t1 : (x == y) = false := beq_eq_false_iff_ne.2 hxy
        have HNE := Lib.hid hxy
        clear hxy
        go_wp2
        go_round
        case rel => exact ⟨k + 1, by omega, by go_num, by rw [take_more HX.out]; intro hm; rcases List.mem_append.1 hm with hm | hm; exact HN.out hm; (have h2 : x = y := (by simpa using hm)); exact HNE.out h2⟩
        case measure => simp [intOf]; omega
    · have HM : Hid (decide (x ∈ l) = false) := Lib.hid (decide_eq_false (by have h1 := HN.out; rwa [List.take_of_length_le (by have := HL.out; omega)] at h1))
      go_wp2
      go_ret
      exact ⟨⟨_, rfl, iff_of_false (by omega) (of_decide_eq_false HM.out), by omega⟩, rfl⟩
theorem ocontains_any (l : List Int) (x : Int) (A : Option Addr) (n c B : Nat) (w : World) (h : Rd w B 1 A n (I l)) (hn : n ≤ 1000000) :
    Calls Tryz.prog 61 #[.slice A n c, .int .i64 x] w fun e w' => e = .returned (.bool (decide (x ∈ l))) ∧ w = w' := by
  go_enter Tryz.func61, Tryz.ntmps61
  go_wp2_with fail
  refine (oindex_any l x A n c B w h hn).mono ?_
  rintro e w2 ⟨⟨i, rfl, hd, hi⟩, rfl⟩
  have HD := Lib.hid hd
  clear hd
  go_wp2
  go_ret
  exact ⟨ret_bool (by rw [← HD.out]), rfl⟩
end Go.Proofs.YtmbfldcmiabccaaGreatDoor

namespace Go.Proofs.YtmbfldcmiabccaaGreatDoor
set_option linter.unusedVariables false
set_option linter.unusedSimpArgs false
open Go.RowKit

end Go.Proofs.YtmbfldcmiabccaaGreatDoor

namespace Go.Proofs.YtmbfldcmiabccaaGreatDoor
set_option linter.unusedVariables false
set_option linter.unusedSimpArgs false
open Go.RowKit

end Go.Proofs.YtmbfldcmiabccaaGreatDoor

namespace Go.Proofs.YtmbfldcmiabccaaGreatDoor
set_option linter.unusedVariables false
set_option linter.unusedSimpArgs false
open Go.RowKit

/-- a state that can be looked at -/
def SFit (w : World) (v : Sv) : Prop := SRd w v ∧ v.n * 32 ≤ 140737488351232 ∧ ∀ x ∈ v.s.apps, x.val.length ≤ 140737488351232
theorem SFit.belowH {w w' : World} {v : Sv} (h : SFit w v) (hb : Below w.heap.size w w') : SFit w' v := ⟨h.1.belowH hb, h.2⟩
theorem SFit.alloc {w : World} {v : Sv} (h : SFit w v) (o : Obj) : SFit (w.alloc o) v := ⟨h.1.alloc o, h.2⟩
end Go.Proofs.YtmbfldcmiabccaaGreatDoor

