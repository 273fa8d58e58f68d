/- slot: slices.SortFunc of words by their order. -/
import Derived.Test.YtcfnhilcpfiocaaStu
namespace Go.Proofs.Ytcfnhilcpfiocaa
open Go.RowKit Go.Shelf Go.Sort

def wvs (l : List Nat) : List Value := l.flatMap fun n => [.int .u64 (lb n 0), .int .u64 (lb n 1), .int .u64 (lb n 2), .int .u64 (lb n 3)]
theorem wvs_len (l : List Nat) : (wvs l).length = l.length * 4 := by
  induction l with
  | nil => rfl
  | cons a l ih => show (_ :: _ :: _ :: _ :: wvs l).length = _; simp only [List.length_cons, ih]; omega
theorem wvs_app (l m : List Nat) : wvs l ++ wvs m = wvs (l ++ m) := by unfold wvs; rw [List.flatMap_append]
theorem wvs_get (l : List Nat) : ∀ k j, j < 4 → (wvs l)[k * 4 + j]? = (l[k]?).bind fun n => (Wc n)[j]? := by
  induction l with
  | nil => intro k j _; simp [wvs]
  | cons a l ih =>
    intro k j hj
    cases k with
    | zero =>
      rcases j with _ | _ | _ | _ | j
      · rfl
      · rfl
      · rfl
      · rfl
      · omega
    | succ k =>
      show (_ :: _ :: _ :: _ :: wvs l)[(k + 1) * 4 + j]? = _
      rw [show (k + 1) * 4 + j = (k * 4 + j) + 1 + 1 + 1 + 1 by omega]
      simp only [List.getElem?_cons_succ]
      exact ih k j hj
/-- A word as an element of a sorted row. -/
abbrev Wd := { n : Nat // n < MM }
instance : Inhabited Wd := ⟨⟨0, by decide⟩⟩
def wE (x : Wd) : List Value := [.int .u64 (lb x.1 0), .int .u64 (lb x.1 1), .int .u64 (lb x.1 2), .int .u64 (lb x.1 3)]
theorem wE_len (x : Wd) : (wE x).length = 4 := rfl
theorem flat_wE (d : Array Wd) : (flatK wE 4 d).toList = wvs (d.toList.map (·.1)) := by
  apply List.ext_getElem?
  intro t
  have hs : (flatK wE 4 d).toList.length = d.size * 4 := by rw [Array.length_toList, size_flatK]
  by_cases ht : t < d.size * 4
  · have h1 : (flatK wE 4 d).toList[t]? = some (flatK wE 4 d)[t]! := by
      rw [Array.getElem?_toList, getElem!_pos _ t (by rw [size_flatK]; exact ht), Array.getElem?_eq_getElem (by rw [size_flatK]; exact ht)]
    rw [h1, get_flatK _ _ _ t ht]
    have h2 := wvs_get (d.toList.map (·.1)) (t / 4) (t % 4) (Nat.mod_lt _ (by decide))
    rw [show t / 4 * 4 + t % 4 = t by omega] at h2
    rw [h2, List.getElem?_map, Array.getElem?_toList, Array.getElem?_eq_getElem (by omega), getElem!_pos d (t / 4) (by omega)]
    generalize d[t / 4] = x
    have h3 : t % 4 < 4 := Nat.mod_lt _ (by decide)
    generalize t % 4 = j at h3
    rcases j with _ | _ | _ | _ | j
    · rfl
    · rfl
    · rfl
    · rfl
    · omega
  · rw [List.getElem?_eq_none (by omega), List.getElem?_eq_none (by rw [wvs_len, List.length_map, Array.length_toList]; omega)]
def wcmp (x y : Wd) : Int := cmpN x.1 y.1
theorem wcmp_lt (x y : Wd) : ltOf wcmp x y = decide (x.1 < y.1) := by
  unfold ltOf wcmp
  congr 1
  rcases Nat.lt_trichotomy x.1 y.1 with h | h | h
  · rw [cmpN_lt h]; simp [h]
  · rw [h, cmpN_eq]; simp
  · rw [cmpN_gt h]; simp; omega
theorem wcmp_swo : SWO (ltOf wcmp) where
  irrefl := fun x => by rw [wcmp_lt]; simp
  trans := fun x y z h k => by rw [wcmp_lt] at *; simp at *; omega
  ntrans := fun x y z h k => by rw [wcmp_lt] at *; simp at *; omega
/-- A slice's words in rising order. -/
def risen (d : List Wd) : List Wd := d.mergeSort fun x y => !(ltOf wcmp) y x
theorem enters_order (args : Array Value) (w : World) : (callFunc 31 args).run Try.prog w = .ok (.enter 31 args) w := enters_of Try.func31 (by kernel_rfl) rfl args w
theorem word_agg (w : World) : (isAgg (laysSort_ren.t 24)).run Try.prog w = .ok true w := Try.isAgg25 w
theorem word_size (w : World) : (Go.sizeOf (laysSort_ren.t 24)).run Try.prog w = .ok 4 w := Try.sizeOf25 w
theorem sort_any (g cap : Nat) (d : List Wd) (w : World) (base : Nat) (hd : d.length < 4611686018427387904) (h : w.ownsRow base 25 4 (.slice (some ⟨g, 0, none⟩) d.length cap) d.length (wvs (d.map (·.1)))) :
    Calls Try.prog 49 #[.slice (some ⟨g, 0, none⟩) d.length cap, .func (.func 31) #[] #[]] w fun e w' => e = .returned (.tuple #[]) ∧ w'.ownsRow base 25 4 (.slice (some ⟨g, 0, none⟩) d.length cap) d.length (wvs ((risen d).map (·.1))) ∧ w.grownBy w' (some g) := by
  obtain ⟨g', cap', cur, hv, hb, hg, hn, hc, hcs, htk⟩ : ∃ g' cap' cur, Value.slice (some ⟨g, 0, none⟩) d.length cap = .slice (some ⟨g', 0, none⟩) d.length cap' ∧ base ≤ g' ∧ w.heap[g']? = some (.cells cur 25 (0, 0)) ∧ d.length ≤ cap' ∧ cap' ≤ maxLen ∧ cur.size = cap' * 4 ∧ cur.toList.take (d.length * 4) = wvs (d.map (·.1)) := by
    rcases h.2 with ⟨h1, _⟩ | h1
    · cases h1
    · exact h1
  obtain ⟨rfl, rfl⟩ : g = g' ∧ cap = cap' := by injection hv with h1 _ h3; injection h1 with h1; injection h1 with h1; exact ⟨h1, h3⟩
  have hlt : g < w.heap.size := (Array.getElem?_eq_some_iff.1 hg).1
  have hH : HoldsK wE 4 w g 0 d.toArray := by
    intro j hj
    rw [size_flatK] at hj
    have hj' : j < d.length * 4 := by simpa using hj
    refine ⟨?_, frozen_of_row _ _ _ _ _ hg⟩
    have h1 : cur[j]? = some (flatK wE 4 d.toArray)[j]! := by
      have h2 : (cur.toList.take (d.length * 4))[j]? = (flatK wE 4 d.toArray).toList[j]? := by rw [htk, flat_wE]
      rw [List.getElem?_take, if_pos hj', Array.getElem?_toList, Array.getElem?_toList] at h2
      rw [h2, getElem!_pos _ j (by rw [size_flatK]; exact hj), Array.getElem?_eq_getElem (by rw [size_flatK]; exact hj)]
    rw [Nat.zero_add]
    exact cell_of_row _ _ j _ _ _ hg |>.trans h1
  have hcmp : CmpLays Try.prog 31 #[] wE 4 wcmp g 0 d.toArray.size w := fun m os dk _ x y => by
    refine (order_anyD x.1 y.1 x.2 y.2 _).mono ?_
    rintro e w' ⟨rfl, hw⟩
    exact ⟨rfl, hw.isGrown⟩
  have hs := AnyQ.slices_SortFunc_total laysSort 4 word_agg word_size wE wE_len (fun x v hv => by simp [wE] at hv; rcases hv with rfl | rfl | rfl | rfl <;> rfl) wcmp wcmp_swo 31 #[] g 0 cap d.toArray w enters_order hcmp hH hlt (by simpa using hd) (fun x y h1 h2 => by rw [wcmp_lt] at h1 h2; simp at h1 h2; exact Subtype.ext (by omega))
  rw [show d.toArray.size = d.length by simp] at hs
  refine Calls.mono (show Calls Try.prog 49 _ w _ from hs) ?_
  rintro e w' ⟨rfl, n, os, rfl⟩
  have hperm : (risen d).length = d.length := List.length_mergeSort _
  have hF : (flatK wE 4 (risen d).toArray).size = d.length * 4 := by rw [size_flatK]; simp [hperm]
  have hFl := flat_wE (risen d).toArray
  change (flatK wE 4 (risen d).toArray).toList = wvs ((risen d).map (·.1)) at hFl
  show Ending.returned (.tuple #[]) = .returned (.tuple #[]) ∧ (grow (putRow id (Sort.ahead w n) g 0 (flatK wE 4 (risen d).toArray)) os).ownsRow base 25 4 (.slice (some ⟨g, 0, none⟩) d.length cap) d.length (wvs ((risen d).map (·.1))) ∧ w.grownBy (grow (putRow id (Sort.ahead w n) g 0 (flatK wE 4 (risen d).toArray)) os) (some g)
  generalize flatK wE 4 (risen d).toArray = F at hF hFl
  have hblk : (grow (putRow id (Sort.ahead w n) g 0 F) os).heap[g]? = some (.cells (putCells id 0 F cur) 25 (0, 0)) := by
    show ((w.heap.modify g (onCells (putCells id 0 F))) ++ os)[g]? = _
    rw [Array.getElem?_append_left (by rw [Array.size_modify]; exact hlt), Array.getElem?_modify, if_pos rfl, hg]
    rfl
  refine ⟨rfl, ⟨by rw [wvs_len, List.length_map, hperm], .inr ⟨g, cap, putCells id 0 F cur, rfl, hb, hblk, hn, hc, by rw [putCells, Array.size_mapIdx]; exact hcs, ?_⟩⟩, ⟨rfl, rfl, rfl, ?_, ?_⟩⟩
  · rw [← hFl]
    apply List.ext_getElem?
    intro t
    by_cases ht : t < d.length * 4
    · have h1 : t < cur.size := by rw [hcs]; omega
      rw [List.getElem?_take, if_pos ht, Array.getElem?_toList, Array.getElem?_toList, putCells, Array.getElem?_mapIdx, Array.getElem?_eq_getElem h1, Option.map_some, if_pos ⟨Nat.zero_le _, by omega⟩, Array.getElem?_eq_getElem (by omega), ← getElem!_pos F t (by omega)]
      rfl
    · rw [List.getElem?_eq_none (by rw [List.length_take]; omega), List.getElem?_eq_none (by rw [Array.length_toList]; omega)]
  · show w.heap.size ≤ ((w.heap.modify g (onCells (putCells id 0 F))) ++ os).size
    rw [Array.size_append, Array.size_modify]; omega
  · intro k hk hne
    show ((w.heap.modify g (onCells (putCells id 0 F))) ++ os)[k]? = _
    rw [Array.getElem?_append_left (by rw [Array.size_modify]; exact hk), Array.getElem?_modify, if_neg (fun e => hne (by rw [e]))]

end Go.Proofs.Ytcfnhilcpfiocaa
