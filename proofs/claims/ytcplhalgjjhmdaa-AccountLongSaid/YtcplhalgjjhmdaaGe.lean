/- label: Join, Meet, Below, Between; the document's Below. -/
import Derived.Test.YtcplhalgjjhmdaaGd
import Derived.Deep.RegionHeld3
namespace Go.Proofs.Ytcplhalgjjhmdaa
open Go.RowKit Go.Shelf

/-- A slice of labels. -/
def LsA (X : World) (v : Value) (l : List Nat) : Prop :=
  ∃ x c, v = .slice x l.length c ∧ (l.length < 1000000000000 ∧ ∀ a ∈ l, a < 2 ^ 64) ∧ (l ≠ [] → ∃ g o, x = some ⟨g, o, none⟩ ∧ g < X.heap.size ∧ ∀ k a, l[k]? = some a → X.cell? ⟨g, o + k, none⟩ = some (.int .u64 (a : Nat)))
theorem LsA.keep {X Y : World} {v : Value} {l : List Nat} (h : LsA X v l) (k : Below X.heap.size X Y) : LsA Y v l := by
  obtain ⟨x, c, h1, h2, h3⟩ := h
  refine ⟨x, c, h1, h2, fun hn => ?_⟩
  obtain ⟨g, o, h4, h5, h6⟩ := h3 hn
  exact ⟨g, o, h4, Nat.lt_of_lt_of_le h5 k.size, fun j a hj => (k.cell (p := ⟨g, o + j, none⟩) h5).trans (h6 j a hj)⟩
theorem LsA.two (w : World) (a b : Nat) (ha : a < 2 ^ 64) (hb : b < 2 ^ 64) (t : TypeId) : LsA (w.alloc (.cells #[.int .u64 (a : Nat), .int .u64 (b : Nat)] t)) (.slice (some ⟨w.heap.size, 0, none⟩) 2 2) [a, b] := by
  refine ⟨some ⟨w.heap.size, 0, none⟩, 2, rfl, ⟨by simp, fun x hx => by simp at hx; rcases hx with rfl | rfl <;> assumption⟩, fun _ => ⟨w.heap.size, 0, rfl, by simp, fun k x hk => ?_⟩⟩
  have hN := Blk.new w t #[.int .u64 (a : Nat), .int .u64 (b : Nat)]
  match k, hk with
  | 0, hk => simp at hk; subst hk; exact cell_of_row _ _ 0 _ _ _ hN
  | 1, hk => simp at hk; subst hk; exact cell_of_row _ _ 1 _ _ _ hN
  | k + 2, hk => simp at hk
theorem LsA.nil (X : World) : LsA X (.slice none 0 0) [] := ⟨none, 0, rfl, ⟨by simp, by simp⟩, fun h => absurd rfl h⟩
theorem take_fold {α β : Type} (f : β → α → β) (s : β) (l : List α) (k : Nat) (a : α) (h : l[k]? = some a) : (l.take (k + 1)).foldl f s = f ((l.take k).foldl f s) a := by
  rw [List.take_add_one, h, List.foldl_append]; rfl
theorem fold_or_lt (l : List Nat) : ∀ s, s < 2 ^ 64 → (∀ a ∈ l, a < 2 ^ 64) → l.foldl (· ||| ·) s < 2 ^ 64 := by
  induction l with
  | nil => exact fun s h _ => h
  | cons x r ih => exact fun s h k => ih _ (Nat.or_lt_two_pow h (k x List.mem_cons_self)) (fun a ha => k a (List.mem_cons_of_mem _ ha))
theorem fold_and_lt (l : List Nat) : ∀ s, s < 2 ^ 64 → (∀ a ∈ l, a < 2 ^ 64) → l.foldl (· &&& ·) s < 2 ^ 64 := by
  induction l with
  | nil => exact fun s h _ => h
  | cons x r ih => exact fun s h k => ih _ (Nat.lt_of_le_of_lt Nat.and_le_left h) (fun a ha => k a (List.mem_cons_of_mem _ ha))

set_option maxRecDepth 100000 in
set_option maxHeartbeats 1000000 in
theorem fold_join (s : Nat) (l : List Nat) (v : Value) (w : World) (hs : s < 2 ^ 64) (hl : LsA w v l) :
    Calls Try.prog 71 #[.int .u64 (s : Nat), .func (.func 72) #[] #[], v] w fun e w' => e = .returned (.int .u64 (l.foldl (· ||| ·) s : Nat)) ∧ w = w' := by
  obtain ⟨x, c, rfl, ⟨hn, hm⟩, hx⟩ := hl
  have HX := Lib.hid hx
  have HM := Lib.hid (And.intro hs hm)
  clear hx hm hs
  go_enter Try.func71, Try.ntmps71
  go_wp2
  go_loop [0, 11] (fun u i => ∃ k : Nat, k ≤ l.length ∧ i = .int .i64 k ∧ u = .int .u64 ((l.take k).foldl (· ||| ·) s : Nat)) (fun _ i => l.length - (intOf i).toNat)
  case atStart => exact ⟨0, by omega, rfl, rfl⟩
  case round =>
    obtain ⟨k, hk, rfl, rfl⟩ := hrel
    by_cases hlt : k < l.length
    · obtain ⟨a, ha⟩ : ∃ a, l[k]? = some a := ⟨_, List.getElem?_eq_getElem hlt⟩
      obtain ⟨g, o, rfl, hg, hc⟩ := HX.out (fun h => by rw [h] at hlt; simp at hlt)
      have hck := hc k a ha
      have hla : a < 2 ^ 64 := HM.out.2 a (List.mem_of_getElem? ha)
      have hls : (l.take k).foldl (· ||| ·) s < 2 ^ 64 := fold_or_lt _ s HM.out.1 (fun b hb => HM.out.2 b (List.mem_of_mem_take hb))
      have HF := Lib.hid (take_fold (· ||| ·) s l k a ha)
      clear hc ha hg
      generalize (l.take k).foldl (· ||| ·) s = u at *
      go_wp2_with (first | (go_at_call 72; refine (join1_any u a hls hla _).mono ?_; rintro e w' ⟨rfl, rfl⟩) | fail)
      go_round
      case rel => exact ⟨k + 1, by omega, by go_num, by rw [HF.out]⟩
      case measure => simp [intOf]; omega
    · obtain rfl : k = l.length := by omega
      rw [List.take_length]
      go_wp2
      go_ret
      exact ⟨rfl, rfl⟩
set_option maxRecDepth 100000 in
set_option maxHeartbeats 1000000 in
theorem join_any (l : List Nat) (v : Value) (w : World) (hl : LsA w v l) :
    Calls Try.prog 69 #[v] w fun e w' => e = .returned (.int .u64 (joinL l : Nat)) ∧ w = w' := by
  have HC := Lib.hid (fold_join 0 l v w (by decide) hl)
  obtain ⟨x, c, rfl, -, -⟩ := hl
  go_enter Try.func69, Try.ntmps69
  go_wp2_with (first | (go_at_call 71; refine (HC.out).mono ?_; rintro e w' ⟨rfl, rfl⟩) | fail)
  go_ret
  exact ⟨rfl, rfl⟩

theorem joinL_two (a b : Nat) : joinL [a, b] = a ||| b := by simp [joinL]
theorem meetL_two (a b : Nat) (ha : a < 2 ^ 64) : meetL [a, b] = a &&& b := by
  show ((2 ^ 64 - 1) &&& a) &&& b = _
  rw [Nat.and_comm (2 ^ 64 - 1), Nat.and_two_pow_sub_one_eq_mod, Nat.mod_eq_of_lt ha]
theorem sub_eql (a b : Nat) : (((a ||| b : Nat) : Int) == (b : Int)) = sub a b := by
  unfold sub
  rw [Bool.eq_iff_iff, beq_iff_eq, decide_eq_true_iff]
  omega
set_option maxRecDepth 100000 in
set_option maxHeartbeats 1000000 in
theorem below_any (a b : Nat) (ha : a < 2 ^ 64) (hb : b < 2 ^ 64) (w : World) :
    Calls Try.prog 67 #[.int .u64 (a : Nat), .int .u64 (b : Nat)] w fun e w' => e = .returned (.bool (sub a b)) ∧ Below w.heap.size w w' := by
  have HC := Lib.hid (join_any [a, b] _ _ (LsA.two w a b ha hb 34))
  rw [joinL_two] at HC
  have HS := Lib.hid (sub_eql a b)
  clear ha hb
  go_enter Try.func67, Try.ntmps67
  go_wp2_with (first | (go_at_call 69; refine (HC.out).mono ?_; rintro e w' ⟨rfl, rfl⟩) | fail)
  go_ret
  rw [HS.out]
  exact ⟨rfl, balloc (Below.refl _ _) _⟩

theorem info2L : (Try.prog.info? 46).map (·.size) = some 2 := by kernel_rfl
end Go.Proofs.Ytcplhalgjjhmdaa
