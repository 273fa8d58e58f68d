/- big's laws: BigLong: the walk. -/
import Derived.Test.YtjkniebedgiclaaDoorQa
namespace Go.Proofs.YtjkniebedgiclaaDoor
open Go.RowKit Go.Shelf

/-- A slice of noughts, so many as the law says. -/
def SG (base : Nat) (X : World) (o : Option Value) (m : Int) : Prop := m ≤ 1 ∧ -1 ≤ m ∧ ∃ (n b : Nat), (n : Int) = 128 + m ∧ o = some (.slice (some ⟨b, 0, none⟩) n n) ∧ base < b ∧ Bk X b n (fun _ => 0)
theorem SG.kept {base : Nat} {X Y : World} {o : Option Value} {m : Int} {r : Nat} (h : SG base X o m) (k : X.grownBy Y (some r)) (hr : r ≤ base) : SG base Y o m := by
  obtain ⟨h1, h2, n, b, h3, h4, h5, cs, h6, h7⟩ := h
  exact ⟨h1, h2, n, b, h3, h4, h5, cs, h6.kept k (fun e => by injection e with e; omega), h7⟩
theorem SG.new {base : Nat} {X Y : World} {o : Option Value} {m : Int} (h : SG base X o m) (k : Below X.heap.size X Y) : SG base Y o m := by
  obtain ⟨h1, h2, n, b, h3, h4, h5, cs, h6, h7⟩ := h
  exact ⟨h1, h2, n, b, h3, h4, h5, cs, h6.keep k, h7⟩
theorem SG.bto {base : Nat} {X : World} {o : Option Value} {m : Int} (h : SG base X o m) : m ≤ 1 ∧ -1 ≤ m ∧ ∃ (n b : Nat), (n : Int) = 128 + m ∧ o = some (.slice (some ⟨b, 0, none⟩) n n) ∧ Bto X.heap.size X (.slice (some ⟨b, 0, none⟩) n n) (List.replicate n 0) := by
  obtain ⟨h1, h2, n, b, h3, h4, h5, h6⟩ := h
  exact ⟨h1, h2, n, b, h3, h4, h6.bto h6.lt (by simp) (by omega) (fun i u hu => by have := List.mem_of_getElem? hu; rw [List.eq_of_mem_replicate this]) (fun x hx => by rw [List.eq_of_mem_replicate hx]; omega)⟩
theorem arr3 {row : Array Value} (h : row.size = 3) : ∃ a b c, row = #[a, b, c] := by
  obtain ⟨l⟩ := row
  match l, h with
  | [a, b, c], _ => exact ⟨a, b, c, rfl⟩
def lg (M : Nat → Int) (k : Nat) : Bool := (List.range k).any fun j => decide (0 < M j)
theorem lg_succ (M : Nat → Int) (k : Nat) : lg M (k + 1) = (lg M k || decide (0 < M k)) := by unfold lg; rw [List.range_succ, List.any_append]; simp

set_option maxRecDepth 100000 in
set_option maxHeartbeats 4000000 in
theorem long_walk (m0 m1 m2 : Int) (w : World) :
    Calls Tryd.prog 5 #[.agg #[.int .i64 m0, .int .i64 m1, .int .i64 m2]] w fun e w' => e = .returned (.bool true) ∧ Below w.heap.size w w' := by
  obtain ⟨X, hX⟩ : ∃ X, (w.alloc (.cells #[.int .i64 m0, .int .i64 m1, .int .i64 m2] 42)).alloc (.cells #[.slice none 0 0, .slice none 0 0, .slice none 0 0] 43) = X := ⟨_, rfl⟩
  have HX := Lib.hid hX
  have b1 : Blk X w.heap.size 42 #[.int .i64 m0, .int .i64 m1, .int .i64 m2] := by rw [← hX]; exact (Blk.new w _ _).alloc _
  have b2 : Blk X (w.heap.size + 1) 43 #[.slice none 0 0, .slice none 0 0, .slice none 0 0] := by rw [← hX]; exact Blk.newS w _ _ _
  have b3 : Below w.heap.size w X := by rw [← hX]; exact balloc (balloc (Below.refl _ _) _) _
  have hXs : X.heap.size = w.heap.size + 2 := by rw [← hX]; simp
  obtain ⟨M, hM0, hM1, hM2⟩ : ∃ M : Nat → Int, m0 = M 0 ∧ m1 = M 1 ∧ m2 = M 2 := ⟨fun j => if j = 0 then m0 else if j = 1 then m1 else m2, rfl, rfl, rfl⟩
  subst hM0 hM1 hM2
  have HB := Lib.hid (And.intro b1 (And.intro b2 (And.intro b3 hXs)))
  clear hX b1 b2 b3 hXs
  go_enter Tryd.func5, Tryd.ntmps5
  go_wp2_with fail
  rw [HX.out]
  clear HX
  go_loopw [4, 5] (fun s t wr => ∃ (k : Nat) (row : Array Value), k ≤ 3 ∧ t = .int .i64 k ∧ s = .bool (lg M k) ∧ Blk wr w.heap.size 42 #[.int .i64 (M 0), .int .i64 (M 1), .int .i64 (M 2)] ∧ Blk wr (w.heap.size + 1) 43 row ∧ row.size = 3 ∧ (∀ j, j < k → SG (w.heap.size + 1) wr row[j]? (M j)) ∧ Below w.heap.size w wr) (fun _ t _ => 3 - (intOf t).toNat)
  case atStart => exact ⟨0, _, by omega, rfl, rfl, HB.out.1, HB.out.2.1, rfl, fun j hj => by omega, HB.out.2.2.1⟩
  case round =>
    obtain ⟨k, row, hk, rfl, rfl, hb1, hb2, hrs, hsg, hW⟩ := hrel
    by_cases hlt : k < 3
    · obtain ⟨mk, hmk⟩ : ∃ m, M k = m := ⟨_, rfl⟩
      have kc : wr.cell? ⟨w.heap.size, k, none⟩ = some (.int .i64 mk) := by
        rw [cell_of_row _ _ k _ _ _ hb1, ← hmk]
        match k, hlt with
        | 0, _ => rfl
        | 1, _ => rfl
        | 2, _ => rfl
      have g0 : (k : Int) < 3 := by omega
      have g1 : (0 : Int) ≤ (k : Int) := by omega
      have g2 : IntKind.i64.wrap ((k : Int) + 1) = ((k + 1 : Nat) : Int) := IntWalk.i64_in _ (by omega)
      have HWk := Lib.hid (works_any wr)
      by_cases hlo : mk < -1
      · have HE := Lib.hid hW
        clear hb1 hb2 hsg hW hmk
        go_wp2_with (first | (go_at_call 8; refine HWk.out.mono ?_; rintro e w1 ⟨rfl, h1⟩; have H1 := Lib.hid h1; clear h1) | fail)
        go_ret
        exact ⟨rfl, HE.out.trans (H1.out.mono HE.out.size)⟩
      · by_cases hhi : 1 < mk
        · have HE := Lib.hid hW
          clear hb1 hb2 hsg hW hmk
          go_wp2_with (first | (go_at_call 8; refine HWk.out.mono ?_; rintro e w1 ⟨rfl, h1⟩; have H1 := Lib.hid h1; clear h1) | fail)
          go_ret
          exact ⟨rfl, HE.out.trans (H1.out.mono HE.out.size)⟩
        · obtain ⟨n, hn⟩ : ∃ n : Nat, 128 + mk = (n : Int) := ⟨(128 + mk).toNat, by omega⟩
          have g3 : IntKind.i64.wrap (n : Int) = (n : Int) := IntWalk.i64_in _ (by omega)
          have hmb := make_bytes n (by omega)
          have k2w := frozen_of_row _ _ k _ _ hb2
          have k3w : ∃ v, wr.cell? ⟨w.heap.size + 1, k, none⟩ = some v := ⟨row[k]'(by omega), by rw [cell_of_row _ _ k _ _ _ hb2]; exact Array.getElem?_eq_getElem _⟩
          obtain ⟨v0, k3w⟩ := k3w
          have hbl := hb2.lt
          have hG := grown_set' (grown_refl wr (w.heap.size + 1)) k (.slice (some ⟨wr.heap.size, 0, none⟩) n n)
          have hs2 : Blk (wr.setCell ⟨w.heap.size + 1, k, none⟩ (.slice (some ⟨wr.heap.size, 0, none⟩) n n)) (w.heap.size + 1) 43 (row.setIfInBounds k (.slice (some ⟨wr.heap.size, 0, none⟩) n n)) := heap_setCell_same wr (w.heap.size + 1) k _ _ (.slice (some ⟨wr.heap.size, 0, none⟩) n n) hb2
          have hs1 := hb1.kept hG (fun e => by injection e with e; omega)
          have hsz : (wr.setCell ⟨w.heap.size + 1, k, none⟩ (.slice (some ⟨wr.heap.size, 0, none⟩) n n)).heap.size = wr.heap.size := by simp
          have hWS := hW.setCell (p := ⟨w.heap.size + 1, k, none⟩) (by show w.heap.size ≤ w.heap.size + 1; omega) (.slice (some ⟨wr.heap.size, 0, none⟩) n n)
          have hsgS : ∀ j, j < k → SG (w.heap.size + 1) (wr.setCell ⟨w.heap.size + 1, k, none⟩ (.slice (some ⟨wr.heap.size, 0, none⟩) n n)) row[j]? (M j) := fun j hj => (hsg j hj).kept hG (Nat.le_refl _)
          have hsg2 : ∀ j, j < k + 1 → SG (w.heap.size + 1) ((wr.setCell ⟨w.heap.size + 1, k, none⟩ (.slice (some ⟨wr.heap.size, 0, none⟩) n n)).alloc (.cells (bvs (List.replicate n 0)).toArray 5)) (row.setIfInBounds k (.slice (some ⟨wr.heap.size, 0, none⟩) n n))[j]? (M j) := fun j hj => by
            by_cases e : j = k
            · subst e
              rw [Array.getElem?_setIfInBounds_self_of_lt (by omega), hmk]
              refine ⟨by omega, by omega, n, wr.heap.size, by omega, rfl, by omega, ?_⟩
              have h := Bk.made (wr.setCell ⟨w.heap.size + 1, j, none⟩ (.slice (some ⟨wr.heap.size, 0, none⟩) n n)) n
              rwa [hsz] at h
            · rw [Array.getElem?_setIfInBounds_ne (Ne.symm e)]
              exact (hsgS j (by omega)).new (balloc (Below.refl _ _) _)
          have kz : ((wr.setCell ⟨w.heap.size + 1, k, none⟩ (.slice (some ⟨wr.heap.size, 0, none⟩) n n)).alloc (.cells (bvs (List.replicate n 0)).toArray 5)).cell? ⟨w.heap.size, k, none⟩ = some (.int .i64 mk) := by
            rw [cell_of_row _ _ k _ _ _ (hs1.alloc _), ← hmk]
            match k, hlt with
            | 0, _ => rfl
            | 1, _ => rfl
            | 2, _ => rfl
          have HS := Lib.hid (And.intro (hs1.alloc (.cells (bvs (List.replicate n 0)).toArray 5)) (And.intro (hs2.alloc (.cells (bvs (List.replicate n 0)).toArray 5)) (And.intro hsg2 (And.intro (balloc hWS (.cells (bvs (List.replicate n 0)).toArray 5)) (And.intro hmk hrs)))))
          clear hb1 hb2 hsg hW hmk hs1 hs2 hG hsz hWS hsgS hsg2 HWk hrs
          cases hlg : lg M k
          · have HG := Lib.hid hlg
            clear hlg
            by_cases hp : 0 < mk
            · go_wp2_with fail
              obtain ⟨s1, s2, s3, s4, s5, s6⟩ := HS.out
              exact ⟨⟨k + 1, _, by omega, congrArg (Value.int .i64) (by omega), by rw [lg_succ, HG.out, s5]; simp [hp], s1, s2, by simp [s6], s3, s4⟩, by simp [intOf]; omega⟩
            · go_wp2_with fail
              obtain ⟨s1, s2, s3, s4, s5, s6⟩ := HS.out
              exact ⟨⟨k + 1, _, by omega, congrArg (Value.int .i64) (by omega), by rw [lg_succ, HG.out, s5]; simp [hp], s1, s2, by simp [s6], s3, s4⟩, by simp [intOf]; omega⟩
          · have HG := Lib.hid hlg
            clear hlg
            go_wp2_with fail
            obtain ⟨s1, s2, s3, s4, s5, s6⟩ := HS.out
            exact ⟨⟨k + 1, _, by omega, congrArg (Value.int .i64) (by omega), by rw [lg_succ, HG.out, s5]; simp, s1, s2, by simp [s6], s3, s4⟩, by simp [intOf]; omega⟩
    · obtain rfl : k = 3 := by omega
      obtain ⟨r0, r1, r2, rfl⟩ : ∃ a b c, row = #[a, b, c] := arr3 hrs
      obtain ⟨i0, j0, n0, q0, e0, f0, B0⟩ := (hsg 0 (by omega)).bto
      obtain ⟨i1, j1, n1, q1, e1, f1, B1⟩ := (hsg 1 (by omega)).bto
      obtain ⟨i2, j2, n2, q2, e2, f2, B2⟩ := (hsg 2 (by omega)).bto
      obtain rfl : r0 = _ := by simpa using f0
      obtain rfl : r1 = _ := by simpa using f1
      obtain rfl : r2 = _ := by simpa using f2
      have k0 := cell_of_row _ _ 0 _ _ _ hb2
      have k1 := cell_of_row _ _ 1 _ _ _ hb2
      have k2 := cell_of_row _ _ 2 _ _ _ hb2
      have HS := Lib.hid (And.intro hW hb2)
      have hany : lg M 3 = (decide (0 < M 0) || decide (0 < M 1) || decide (0 < M 2)) := by rw [lg_succ, lg_succ, lg_succ]; rfl
      cases hlg : lg M 3
      · have hno : ¬ 0 < M 0 ∧ ¬ 0 < M 1 ∧ ¬ 0 < M 2 := by rw [hlg] at hany; simpa [and_assoc] using hany.symm
        have HP := Lib.hid (power_any wr.heap.size _ _ _ _ _ _ wr (by rw [List.length_replicate]; omega) (by rw [List.length_replicate]; omega) (by rw [List.length_replicate]; omega) B0 B1 B2)
        rw [List.length_replicate] at HP
        obtain ⟨V, hV⟩ : ∃ V, pwV (List.replicate n0 0) (List.replicate n1 0) (List.replicate n2 0) = V := ⟨_, rfl⟩
        rw [hV] at HP
        clear hsg hb1 hb2 hW hany hlg hno hV i0 i1 i2 j0 j1 j2 e0 e1 e2 f0 f1 f2 B0 B1 B2 HB
        go_wp2_with (first | (go_at_call 9; refine HP.out.mono ?_; rintro e w2 ⟨⟨v2, rfl, h2⟩, hb2⟩; obtain ⟨x2', c2', rfl⟩ := h2.isTb; have k2' := (hb2.cell (p := ⟨w.heap.size + 1, 2, none⟩) HS.out.2.lt).trans k2; have H2 := Lib.hid hb2; clear hb2 h2) | (go_at_call 12; refine (num_any _ _).mono ?_; rintro e w8 ⟨rfl, rfl⟩) | (go_at_call 8; refine (works_any _).mono ?_; rintro e w9 ⟨rfl, h9⟩; have H9 := Lib.hid h9; clear h9) | fail)
        go_ret
        exact ⟨by simp, HS.out.1.trans ((H2.out.trans (H9.out.mono H2.out.size)).mono HS.out.1.size)⟩
      · have hyes : 0 < M 0 ∨ 0 < M 1 ∨ 0 < M 2 := by rw [hlg] at hany; simpa [or_assoc] using hany.symm
        have HP := Lib.hid (power_long (some ⟨q0, 0, none⟩) (some ⟨q1, 0, none⟩) (some ⟨q2, 0, none⟩) n0 n0 n1 n1 n2 n2 wr (by omega))
        clear hsg hb1 hb2 hW hany hlg hyes i0 i1 i2 j0 j1 j2 e0 e1 e2 f0 f1 f2 B0 B1 B2 HB
        go_wp2_with (first | (go_at_call 9; refine HP.out.mono ?_; rintro e w2 ⟨rfl, hb2⟩; have H2 := Lib.hid hb2; clear hb2) | (go_at_call 12; refine (num_any _ _).mono ?_; rintro e w8 ⟨rfl, rfl⟩) | (go_at_call 8; refine (works_any _).mono ?_; rintro e w9 ⟨rfl, h9⟩; have H9 := Lib.hid h9; clear h9) | fail)
        go_ret
        exact ⟨by simp, HS.out.1.trans ((H2.out.trans (H9.out.mono H2.out.size)).mono HS.out.1.size)⟩
end Go.Proofs.YtjkniebedgiclaaDoor
