/- The document's disks: one's own copy. -/
import Derived.Test.YtijpmjedohjikaaKRef3
import Derived.Deep.AppendLies
namespace Go.Proofs.Ytijpmjedohjikaa
set_option linter.unusedVariables false
set_option linter.unusedSimpArgs false
open Go.RowKit
theorem secT : SlT Try.prog 22 26 (.agg (U K.zero).toArray) 64 64 := ⟨Try.underlying22, by kernel_rfl, by kernel_rfl, by omega⟩
theorem litS (w : World) : (w.alloc (.cells #[] 26)).ownsRow w.heap.size 26 64 (.slice (some ⟨w.heap.size, 0, none⟩) 0 0) 0 [] := by
  have := World.ownsRow_lit (base := w.heap.size) (e := 26) (size := 64) w #[] 0 (Nat.le_refl _) (by decide) rfl
  simpa using this
theorem S_one (l : List (List UInt8)) : ∀ u ∈ S l, u.oneCell' = true := by
  intro u hu
  obtain ⟨s, _, h⟩ := List.mem_flatMap.1 hu
  exact U_one s u h
/-- a disk of one's own -/
def CopyR (u : Kv) (w : World) (e : Ending) (w' : World) : Prop := (∃ (A : Option Addr) (c : Nat), e = .returned (.agg #[.slice A u.n c, .int .i64 u.x.fuse, .bool u.x.down]) ∧ w'.ownsRow w.heap.size 26 64 (.slice A u.n c) u.n (S u.x.secs)) ∧ Below w.heap.size w w'
set_option maxHeartbeats 1000000 in
theorem rkcopy_any (u : Kv) (w : World) (h : KRd w u) (hn : u.n ≤ 1000) :
    Calls Try.prog 9 #[kval u] w (CopyR u w) := by
  obtain ⟨⟨l, f, o⟩, A, n, c⟩ := u
  obtain ⟨h, hw, hc, hm⟩ := h
  simp only at h hw hc hm hn
  simp only [kval]
  have X := (Box.new w #[.slice A n c, .int .i64 f, .bool o] 24).below ((Below.refl _ _).alloc (Nat.le_refl _) (.cells #[.slice none 0 0, .int .i64 0, .bool false] 24)) (by simp)
  have Z := Box.new (w.alloc (.cells #[.slice A n c, .int .i64 f, .bool o] 24)) #[.slice none 0 0, .int .i64 0, .bool false] 24
  have b := ((Below.refl w.heap.size w).alloc (Nat.le_refl _) (.cells #[.slice A n c, .int .i64 f, .bool o] 24)).alloc (by simp) (.cells #[.slice none 0 0, .int .i64 0, .bool false] 24)
  rw [show (w.alloc (.cells #[.slice A n c, .int .i64 f, .bool o] 24)).heap.size = w.heap.size + 1 by simp] at Z
  replace h := h.below b
  have hsz : ((w.alloc (.cells #[.slice A n c, .int .i64 f, .bool o] 24)).alloc (.cells #[.slice none 0 0, .int .i64 0, .bool false] 24)).heap.size = w.heap.size + 2 := by simp
  go_enter Try.func9, Try.ntmps9
  go_wp2_with (at_builtin; go_loud (refine app_law0 secT rfl (.tmp 3) (.tmp 5) rfl (w.heap.size + 2) rfl (hsz ▸ litS _) rfl (h.alloc (by omega) _) (S_one l) (by omega) (by omega) (by simp) ?_); rintro A2 c2 w3 ⟨hown, hg, _, _⟩; have hb3 := below_app (b.alloc b.size (.cells #[] 26)) (hsz ▸ litS _) hg (by omega) (by simp); have hq := below_app ((Below.refl (w.heap.size + 2) _).alloc (by omega) (.cells #[] 26)) (hsz ▸ litS _) hg (Nat.le_refl _) (by simp); rw [List.nil_append] at hown; clear hg; replace X := X.below hq (by omega); replace Z := Z.below hq (by omega); clear hq; have x0 := X.at 0 rfl; have x1 := X.at 1 rfl; have x2 := X.at 2 rfl; have z0 := Z.at 0 rfl; have z1 := Z.at 1 rfl; have z2 := Z.at 2 rfl; have xc := X.cold; have zc := Z.cold)
  have Z2 := (((Z.other (b' := w.heap.size) (o := 0) (by omega) (.slice A2 n c2)).set 0 (.slice A2 n c2)).set 1 (.int .i64 f)).set 2 (.bool o)
  have q0 := Z2.at 0 rfl
  have q1 := Z2.at 1 rfl
  have q2 := Z2.at 2 rfl
  refine bodyPost_ret (v := .agg #[.slice A2 n c2, .int .i64 f, .bool o]) (by simp [results, Try.results9, go_sem, q0, q1, q2]; try rfl) rfl ⟨⟨A2, c2, rfl, ?_⟩, ?_⟩
  · refine own_mono ?_ (show w.heap.size ≤ w.heap.size + 2 by omega)
    exact ownsRow_setCell_below (ownsRow_setCell_below (ownsRow_setCell_below (ownsRow_setCell_below hown (by show w.heap.size < _; omega) _) (by show w.heap.size + 1 < _; omega) _) (by show w.heap.size + 1 < _; omega) _) (by show w.heap.size + 1 < _; omega) _
  · exact below_set (below_set (below_set (below_set hb3 (by omega) _) (by omega) _) (by omega) _) (by omega) _
end Go.Proofs.Ytijpmjedohjikaa
