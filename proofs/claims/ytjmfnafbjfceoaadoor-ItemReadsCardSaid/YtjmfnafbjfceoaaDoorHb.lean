/- digest: pieces, of any bytes. -/
import Derived.Test.YtjmfnafbjfceoaaDoorHa
import Derived.Test.YtjmfnafbjfceoaaDoorHk
import Derived.Test.YtjmfnafbjfceoaaDoorKl
import Derived.Test.YtjmfnafbjfceoaaDoorKm
import Derived.Sort.QuietTacIn
import Derived.Sort.LoopGhostIn
import Derived.Lib.MinMax
namespace Go.Proofs.YtjmfnafbjfceoaaDoor
open Go.RowKit Go.Shelf
attribute [local irreducible] Bc pcF jn tot
theorem SlAt.cut {X : World} {s : Sl} {x : Option Addr} {cap : Nat} (h : SlAt X s) (hv : s.v = .slice x s.n cap) (hn : 0 < s.n) : ∃ b o, x = some ⟨b, o, none⟩ ∧ b < X.heap.size ∧ ∀ k, k < s.n → s.f k < 256 ∧ X.cell? ⟨b, o + k, none⟩ = some (.int .u8 (s.f k : Nat)) := by
  obtain ⟨x', cap', hv', _, _, hx⟩ := h
  rw [hv] at hv'
  cases hv'
  exact hx hn
theorem cutFrom (x : Option Addr) (m k c : Nat) (hk : k ≤ m) (w : World) : (Instr.slice 22 (.slice x m c) (some (.int .i64 (k : Nat))) none none).run Tryd.prog w = .ok (sliced x k m c 1) w := by
  have h := run_slice_l (P := Tryd.prog) (w := w) (t := 22) (a := x) (len := m) (cap := c) (ht := by kernel_rfl) .i64 (k : Int) (by omega) (by omega)
  rw [h, show Tryd.prog.elem 22 = 5 by kernel_rfl, show (sizeOf 5).run Tryd.prog w = .ok 1 w by kernel_rfl]
  rfl
theorem Bc_set0 (n o : Nat) (g : Nat → Nat) : (Bc n g).setIfInBounds o (.int .u8 0) = Bc n (wrF g (fun _ => 0) o 1) := by
  refine Array.ext_getElem? fun p => ?_
  rw [Array.getElem?_setIfInBounds, Bc_size]
  by_cases hp : p < n
  · rw [Bc_get n (wrF g (fun _ => 0) o 1) p hp]
    unfold wrF
    by_cases e : o = p
    · subst e; rw [if_pos rfl, if_pos hp, if_pos (by omega)]; rfl
    · rw [if_neg e, if_neg (by omega), Bc_get n g p hp]
  · have h1 : (Bc n g)[p]? = none := Array.getElem?_eq_none (by rw [Bc_size]; omega)
    have h2 : (Bc n (wrF g (fun _ => 0) o 1))[p]? = none := Array.getElem?_eq_none (by rw [Bc_size]; omega)
    rw [h1, h2]
    split
    · rename_i e; subst e; rw [if_neg hp]
    · rfl
end Go.Proofs.YtjmfnafbjfceoaaDoor
