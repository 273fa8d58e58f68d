/- digest: padded, of any bytes. -/
import Derived.Test.YtjmfnafbjfceoaaDoorHb
import Derived.Test.YtjmfnafbjfceoaaDoorHn
namespace Go.Proofs.YtjmfnafbjfceoaaDoor
open Go.RowKit Go.Shelf
/-- The bytes, and what comes behind them. -/
def pdB (N : Nat) (g : Nat → Nat) (i : Nat) : Nat := if i < N then g i else (if i = N then 1 else 0) + (if i + 1 = 136 * (N / 136 + 1) then 128 else 0)
theorem pdB_lt {N : Nat} {g : Nat → Nat} (hg : ∀ i, g i < 256) (i : Nat) : pdB N g i < 256 := by
  unfold pdB
  by_cases h : i < N
  · rw [if_pos h]; exact hg i
  · rw [if_neg h]; split <;> split <;> omega
theorem pad_full {N : Nat} {g : Nat → Nat} {k : Nat} (hk : 136 * k + 136 ≤ N) : Bc 136 (pcF N g k) = Bc 136 (fun p => pdB N g (136 * k + p)) :=
  Bc_congr fun p hp => by unfold pcF pdB; rw [if_pos (by omega), if_pos (by omega)]
theorem Bc_setv (n o v : Nat) (g : Nat → Nat) : (Bc n g).setIfInBounds o (.int .u8 (v : Nat)) = Bc n (fun p => if p = o then v else g p) := by
  refine Array.ext_getElem? fun p => ?_
  rw [Array.getElem?_setIfInBounds, Bc_size]
  by_cases hp : p < n
  · rw [Bc_get n (fun p => if p = o then v else g p) p hp]
    by_cases e : o = p
    · subst e; rw [if_pos rfl, if_pos hp, if_pos rfl]
    · rw [if_neg e, if_neg (fun h => e h.symm), Bc_get n g p hp]
  · have h1 : (Bc n g)[p]? = none := Array.getElem?_eq_none (by rw [Bc_size]; omega)
    have h2 : (Bc n (fun p => if p = o then v else g p))[p]? = none := Array.getElem?_eq_none (by rw [Bc_size]; omega)
    rw [h1, h2]
    split
    · rename_i e; subst e; rw [if_neg hp]
    · rfl
theorem pad_last {N : Nat} {g : Nat → Nat} {k f v : Nat} (hk : N = 136 * k + f) (hf : f < 136) (hv : v = (if f = 135 then 129 else 128)) :
    ((Bc 136 (pcF N g k)).setIfInBounds f (.int .u8 1)).setIfInBounds 135 (.int .u8 (v : Nat)) = Bc 136 (fun p => pdB N g (136 * k + p)) := by
  show ((Bc 136 (pcF N g k)).setIfInBounds f (.int .u8 ((1 : Nat) : Int))).setIfInBounds 135 (.int .u8 (v : Nat)) = _
  rw [Bc_setv, Bc_setv]
  refine Bc_congr fun p hp => ?_
  have hq : N / 136 = k := by omega
  unfold pcF pdB
  rw [hq]
  by_cases h1 : p = 135
  · subst h1
    have e1 : ¬ 136 * k + 135 < N := by omega
    have e2 : 136 * k + 135 + 1 = 136 * (k + 1) := by omega
    rw [if_pos rfl, if_neg e1, if_pos e2]
    by_cases h2 : f = 135
    · rw [if_pos h2] at hv; rw [if_pos (show 136 * k + 135 = N by omega), hv]
    · rw [if_neg h2] at hv; rw [if_neg (show ¬ 136 * k + 135 = N by omega), hv]
  · have e2 : ¬ 136 * k + p + 1 = 136 * (k + 1) := by omega
    rw [if_neg h1, if_neg e2]
    by_cases h2 : p = f
    · have e3 : ¬ 136 * k + p < N := by omega
      rw [if_pos h2, if_neg e3, if_pos (show 136 * k + p = N by omega)]
    · rw [if_neg h2]
      by_cases h3 : 136 * k + p < N
      · rw [if_pos h3, if_pos h3]
      · rw [if_neg h3, if_neg h3, if_neg (show ¬ 136 * k + p = N by omega)]
theorem pcF_out {N : Nat} {g : Nat → Nat} {k p : Nat} (h : ¬ 136 * k + p < N) : pcF N g k p = 0 := by unfold pcF; rw [if_neg h]
attribute [local go_sem] Oper.semAt_some
attribute [local irreducible] Bc Fc pcF jn tot pdB blP
end Go.Proofs.YtjmfnafbjfceoaaDoor
