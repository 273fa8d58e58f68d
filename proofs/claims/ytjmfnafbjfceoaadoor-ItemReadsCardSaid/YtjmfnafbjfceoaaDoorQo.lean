/- Texts laid into one: Qo. -/
import Derived.Test.YtjmfnafbjfceoaaDoorQn
import Derived.Test.YtjmfnafbjfceoaaDoorYq
import Derived.Deep.QuietTactic
import Derived.BigQuiet
import Derived.RegionTactic
/- item: bytes that are read as an item are its bytes. -/
namespace Go.Proofs.YtjmfnafbjfceoaaDoor
open Go.RowKit Go.Shelf
attribute [local irreducible] lb wdG byA byC nuL toS
theorem cut_head {f : Nat} {r : List Nat} {k : Nat} {body rest : List Nat} (h256 : ∀ x ∈ f :: r, x < 256) (hl : (f :: r).length ≤ 4096) (hf : ¬ f < 128) (h : cutS (f :: r) = some (k, body, rest)) : f :: r = heL (hdN k) body.length ++ (body ++ rest) ∧ k = kdN f := by
  have hff := h256 f (by simp)
  cases hln : lenR (f - hdN (kdN f)) r with
  | none => rw [cut_none hf hln] at h; cases h
  | some nk =>
    obtain ⟨n, kk⟩ := nk
    obtain ⟨hcs, hk1, hkn⟩ := cut_some hf hln
    rw [hcs] at h
    injection h with h; injection h with e1 h; injection h with e2 e3
    have hbl : body.length = n := by rw [← e2, List.length_take, List.length_drop]; omega
    have hsplit : f :: r = (f :: r).take kk ++ (body ++ rest) := by
      rw [← e2, ← e3, ← List.drop_drop, List.take_append_drop, List.take_append_drop]
    have hkd : kdN f = 1 ∨ kdN f = 2 := by unfold kdN; rw [if_neg hf]; split <;> simp
    have hfd : hdN (kdN f) ≤ f ∧ f < hdN (kdN f) + 64 := by
      unfold kdN
      rw [if_neg hf]
      by_cases h1 : f < 192
      · rw [if_pos h1]; exact ⟨by show 128 ≤ f; omega, by show f < 128 + 64; omega⟩
      · rw [if_neg h1]; exact ⟨by show 192 ≤ f; omega, by show f < 192 + 64; omega⟩
    obtain ⟨hh, hhe⟩ : ∃ hh, hdN (kdN f) = hh := ⟨_, rfl⟩
    rw [hhe] at hln hfd
    have hhead : (f :: r).take kk = heL hh n := by
      obtain ⟨s, hs⟩ : ∃ s, f - hh = s := ⟨_, rfl⟩
      have hfs : f = hh + s := by omega
      rw [hs] at hln
      have hn64 : n < 65536 := by omega
      rw [heL_eq hh n hn64]
      by_cases h55 : s ≤ 55
      · rw [lenR_short s r h55] at hln
        split at hln
        · cases hln
        · cases hln
          rw [if_pos h55, hfs]; rfl
      · by_cases hfew : r.length < s - 55
        · rw [lenR_few s r (by omega) hfew] at hln; cases hln
        by_cases hwide : 57 < s
        · rw [lenR_wide s r hwide (by simp at hl; omega)] at hln; cases hln
        cases r with
        | nil => simp at hfew; omega
        | cons a r1 =>
          have ha := h256 a (by simp)
          by_cases ha0 : a = 0
          · subst ha0
            rw [lenR_nought s r1 (by omega)] at hln; cases hln
          by_cases h56 : s = 56
          · subst h56
            rw [lenR_one a r1 ha0] at hln
            split at hln
            · rename_i h2
              cases hln
              rw [if_neg (by omega), if_pos ha, hfs]; rfl
            · cases hln
          · obtain rfl : s = 57 := by omega
            cases r1 with
            | nil => simp at hfew
            | cons a2 r2 =>
              have ha2 := h256 a2 (by simp)
              rw [lenR_two a a2 r2 ha0] at hln
              split at hln
              · rename_i h2
                cases hln
                rw [if_neg (by omega), if_neg (by omega), hfs, show (a * 256 + a2) / 256 = a by omega, show (a * 256 + a2) % 256 = a2 by omega]; rfl
              · cases hln
    refine ⟨?_, e1.symm⟩
    rw [← e1, hhe, hbl, ← hhead]
    exact hsplit
/-- The bytes of a piece with its head. -/
def hdB (k : Nat) (body : List Nat) : List Nat := if k = 0 then body else heL (hdN k) body.length ++ body
theorem cut_whole {l : List Nat} {k : Nat} {body rest : List Nat} (h256 : ∀ x ∈ l, x < 256) (hl : l.length ≤ 4096) (h : cutS l = some (k, body, rest)) : l = hdB k body ++ rest := by
  cases l with
  | nil => cases h
  | cons f r =>
    by_cases hf : f < 128
    · rw [cutS_cons, if_pos hf] at h
      cases h
      rfl
    · obtain ⟨h1, h2⟩ := cut_head h256 hl hf h
      have hk : k ≠ 0 := by
        rw [h2]; unfold kdN; rw [if_neg hf]; split <;> omega
      unfold hdB
      rw [if_neg hk, List.append_assoc]
      exact h1
theorem hdB_mem {k : Nat} {body : List Nat} {x : Nat} (h : x ∈ body) : x ∈ hdB k body := by
  unfold hdB
  split
  · exact h
  · exact List.mem_append.2 (.inr h)
/-- What is read as an item is its bytes. -/
theorem rd_good (d : Nat) : ∀ (k : Nat) (body : List Nat) (t : It), k ≤ 2 → (∀ x ∈ body, x < 256) → body.length ≤ 600 → rdPl d k body = some t → hdB k body = laT d t ∧ rtB d t = true ∧ smT t := by
  induction d with
  | zero => intro k body t _ _ _ h; cases h
  | succ d ih =>
    intro k body t hk h256 hl h
    by_cases hk2 : k = 2
    · subst hk2
      rw [rdPl_list] at h
      cases hi : itsR d body with
      | none => rw [hi] at h; cases h
      | some ts =>
        rw [hi] at h
        cases h
        have key : ∀ (n : Nat) (b : List Nat) (ts : List It), b.length ≤ n → b.length ≤ 600 → (∀ x ∈ b, x < 256) → itL (rdPl d) n b = some ts → b = (ts.map (laT d)).flatten ∧ ts.all (rtB d) = true ∧ ts.length ≤ b.length ∧ ∀ t ∈ ts, smT t := by
          intro n
          induction n with
          | zero =>
            intro b ts hb _ _ h
            have : b = [] := List.length_eq_zero_iff.1 (by omega)
            subst this
            cases h
            exact ⟨rfl, rfl, Nat.le_refl _, fun t h => by simp at h⟩
          | succ n ihn =>
            intro b ts hb hb6 hb256 h
            cases b with
            | nil => cases h; exact ⟨rfl, rfl, Nat.le_refl _, fun t h => by simp at h⟩
            | cons x xs =>
              rw [itL] at h
              cases hc : cutS (x :: xs) with
              | none => rw [hc] at h; cases h
              | some q =>
                obtain ⟨k1, b1, r1⟩ := q
                rw [hc] at h
                simp only at h
                cases hf : rdPl d k1 b1 with
                | none => rw [hf] at h; cases h
                | some t1 =>
                  rw [hf] at h
                  simp only at h
                  cases hr : itL (rdPl d) n r1 with
                  | none => rw [hr] at h; cases h
                  | some ts1 =>
                    rw [hr] at h
                    cases h
                    have hless := cut_less hc
                    have hw := cut_whole hb256 (by omega) hc
                    have hm1 : ∀ y ∈ b1, y < 256 := fun y hy => hb256 y (by rw [hw]; exact List.mem_append.2 (.inl (hdB_mem hy)))
                    have hm2 : ∀ y ∈ r1, y < 256 := fun y hy => hb256 y (by rw [hw]; exact List.mem_append.2 (.inr hy))
                    obtain ⟨g1, g2, g3⟩ := ih k1 b1 t1 (cut_kind hc) hm1 (by omega) hf
                    obtain ⟨q1, q2, q3, q4⟩ := ihn r1 ts1 (by omega) (by omega) hm2 hr
                    refine ⟨?_, ?_, ?_, ?_⟩
                    · rw [List.map_cons, List.flatten_cons, ← g1, ← q1]; exact hw
                    · rw [List.all_cons, g2, q2]; rfl
                    · simp only [List.length_cons] at hless hb6 ⊢; omega
                    · intro u hu
                      rcases List.mem_cons.1 hu with h | h
                      · rw [h]; exact g3
                      · exact q4 u h
        obtain ⟨q1, q2, q3, q4⟩ := key body.length body ts (Nat.le_refl _) hl h256 hi
        refine ⟨?_, ?_, ?_⟩
        · show hdB 2 body = laL (ts.map (laT d))
          unfold hdB laL toL
          rw [if_neg (by omega), ← q1]; rfl
        · show (([] : List Nat).isEmpty && ts.all (rtB d)) = true
          rw [q2]; rfl
        · exact .mk true [] ts (by simp) (by omega) (fun i t ht => q4 t (List.mem_of_getElem? ht))
    · rw [rdPl_byte d k body hk2] at h
      split at h
      · rename_i hko
        cases h
        refine ⟨?_, rfl, .mk false body [] hl (by simp) (fun i t ht => by simp at ht)⟩
        show hdB k body = laB body
        unfold hdB laB
        rw [← hko]
        by_cases h0 : koL body = 0
        · rw [if_pos h0, if_pos h0]; rfl
        · have h1 : koL body = 1 := by rcases koL_le body with h | h; exact absurd h h0; exact h
          rw [if_neg h0, if_neg h0, h1]; rfl
      · cases h
/-- What bytes begin with is an item that may be. -/
theorem rdS_good (l : List Nat) (t : It) (r : List Nat) (h256 : ∀ x ∈ l, x < 256) (hl : l.length ≤ 600) (h : rdS 8 l = some (t, r)) : l = laT 8 t ++ r ∧ rtB 8 t = true ∧ smT t := by
  unfold rdS at h
  cases hc : cutS l with
  | none => rw [hc] at h; cases h
  | some q =>
    obtain ⟨k, b, r2⟩ := q
    rw [hc] at h
    simp only at h
    cases hr : rdPl 8 k b with
    | none => rw [hr] at h; cases h
    | some u =>
      rw [hr] at h
      cases h
      have hless := cut_less hc
      have hw := cut_whole h256 (by omega) hc
      have hm1 : ∀ y ∈ b, y < 256 := fun y hy => h256 y (by rw [hw]; exact List.mem_append.2 (.inl (hdB_mem hy)))
      obtain ⟨g1, g2, g3⟩ := rd_good 8 k b _ (cut_kind hc) hm1 (by omega) hr
      exact ⟨by rw [← g1]; exact hw, g2, g3⟩
end Go.Proofs.YtjmfnafbjfceoaaDoor

/- item's law: ItemReads: the walk. -/
namespace Go.Proofs.YtjmfnafbjfceoaaDoor
open Go.RowKit Go.Shelf Go.ChangeShapes Go.WideShapes Go.ChangeAt
set_option linter.unusedSimpArgs false
attribute [local irreducible] lb wdG byA byC nuL toS heL
theorem ItP.zero (M : Nat → Prop) (X : World) : ItP M X (.mk false [] []) (itW false none 0 0 none 0 0) :=
  ItP.mk false [] [] (.slice none 0 0) (.slice none 0 0) [] ⟨by simp, none, 0, rfl, by simp, by simp, fun h => (h rfl).elim⟩ ⟨none, 0, rfl, by simp, fun h => (h rfl).elim⟩ rfl (fun i t v a => by simp at a) (fun n c e => by cases e; rfl)
/-- What Decode tells, whatever it is. -/
theorem DeP.both {o : Option It} {w : World} {e : Ending} {w' : World} (h : DeP o w e w') : ∃ b x m c y n d, e = .returned (.tuple #[itW b x m c y n d, .int .i64 (if o.isSome then 0 else 160 : Nat)]) ∧ ItP (fun b => w.heap.size ≤ b) w' (o.getD (.mk false [] [])) (itW b x m c y n d) ∧ Below w.heap.size w w' := by
  cases o with
  | none => exact ⟨_, _, _, _, _, _, _, h.2, ItP.zero _ _, h.1⟩
  | some t =>
    obtain ⟨h1, b, x, m, c, y, n, d, h2, h3⟩ := h
    exact ⟨b, x, m, c, y, n, d, h2, h3, h1⟩
/-- What First tells, whatever it is. -/
theorem FiP.both {o : Option (It × List Nat)} {l : List Nat} {w : World} {e : Ending} {w' : World} (h : FiP o l w e w') : ∃ b x m c y n d, e = .returned (.tuple #[itW b x m c y n d, .int .i64 ((o.map fun q => l.length - q.2.length).getD 0 : Nat), .int .i64 (if o.isSome then 0 else 160 : Nat)]) ∧ ItP (fun b => w.heap.size ≤ b) w' ((o.map (·.1)).getD (.mk false [] [])) (itW b x m c y n d) ∧ Below w.heap.size w w' := by
  cases o with
  | none => exact ⟨_, _, _, _, _, _, _, h.2, ItP.zero _ _, h.1⟩
  | some q =>
    obtain ⟨t, r⟩ := q
    obtain ⟨h1, b, x, m, c, y, n, d, h2, h3⟩ := h
    exact ⟨b, x, m, c, y, n, d, h2, h3, h1⟩
set_option maxRecDepth 100000 in
set_option maxHeartbeats 8000000 in
theorem reads_core (x0 : Option Addr) (q c0 : Nat) (l : List Nat) (tD tF : It) (nD nF kF : Nat) (w : World) (hq : l.length = q) (hl : q ≤ 600) (hH : HD w) (hsD : smT tD) (hsF : smT tF)
    (hgood : nD = 0 → (laT 8 tD = l ∧ rtB 8 tD = true) ∧ ∀ X, Below w.heap.size w X → (convert 22 9 (.slice x0 q c0)).run Tryd.prog X = .ok (.string (toS l)) X)
    (hDx : ∀ X, Below w.heap.size w X → Calls Tryd.prog 13 #[.slice x0 q c0] X fun e w' => ∃ b x m c y n d, e = .returned (.tuple #[itW b x m c y n d, .int .i64 (nD : Nat)]) ∧ ItP (fun b => X.heap.size ≤ b) w' tD (itW b x m c y n d) ∧ Below X.heap.size X w')
    (hFx : ∀ X, Below w.heap.size w X → Calls Tryd.prog 16 #[.slice x0 q c0] X fun e w' => ∃ b x m c y n d, e = .returned (.tuple #[itW b x m c y n d, .int .i64 (kF : Nat), .int .i64 (nF : Nat)]) ∧ ItP (fun b => X.heap.size ≤ b) w' tF (itW b x m c y n d) ∧ Below X.heap.size X w')
    (hDr : ∀ X, Below w.heap.size w X → Calls Tryd.prog 17 #[.slice x0 q c0] X fun e w' => ∃ b x m c y n d, e = .returned (.tuple #[itW b x m c y n d, .int .i64 (nD : Nat)]) ∧ ItP (fun b => X.heap.size ≤ b) w' tD (itW b x m c y n d) ∧ Below X.heap.size X w')
    (hFr : ∀ X, Below w.heap.size w X → Calls Tryd.prog 18 #[.slice x0 q c0] X fun e w' => ∃ b x m c y n d, e = .returned (.tuple #[itW b x m c y n d, .int .i64 (kF : Nat), .int .i64 (nF : Nat)]) ∧ ItP (fun b => X.heap.size ≤ b) w' tF (itW b x m c y n d) ∧ Below X.heap.size X w') :
    Calls Tryd.prog 4 #[.slice x0 q c0] w fun e w' => e = .returned (.bool true) ∧ Below w.heap.size w w' := by
  have HDX := Lib.hid (And.intro hDx (And.intro hFx (And.intro hDr hFr)))
  have HS := Lib.hid (And.intro hsD hsF)
  have HG := Lib.hid hgood
  have HH := Lib.hid (And.intro hH hl)
  have gl : ¬ (600 : Int) < (q : Int) := by omega
  have HQ := Lib.hid hq
  clear hDx hFx hDr hFr hsD hsF hgood hH hl hq
  go_enter Tryd.func4, Tryd.ntmps4
  go_wp2_with fail
  refine (HDX.out.1 _ (Below.refl _ _)).mono ?_
  rintro e w1 ⟨b1, x1, m1, c1, y1, n1, d1, rfl, hI, h⟩
  have hst := balloc (Below.refl w1.heap.size w1) (.cells #[.bool b1, .slice x1 m1 c1, .slice y1 n1 d1] 25)
  have hB := Blk.new w1 25 #[.bool b1, .slice x1 m1 c1, .slice y1 n1 d1]
  have hJ := hI.ito.new hst
  have hs := bstep h hst
  have hw := hs
  obtain ⟨W1, hWW⟩ : ∃ W1, w1.alloc (.cells #[.bool b1, .slice x1 m1 c1, .slice y1 n1 d1] 25) = W1 := ⟨_, rfl⟩
  rw [hWW] at hB hJ hs hw
  have H1 := Lib.hid (And.intro hw (And.intro hB hJ))
  have HW1 := Lib.hid hWW
  clear hst hB hJ hs hw hI h hWW
  go_wp2_with fail
  rw [HW1.out]
  refine (HDX.out.2.1 _ H1.out.1).mono ?_
  rintro e w2 ⟨b2, x2, m2, c2, y2, n2, d2, rfl, hI, h⟩
  have hst := balloc (Below.refl w2.heap.size w2) (.cells #[.bool b2, .slice x2 m2 c2, .slice y2 n2 d2] 25)
  have hB := Blk.new w2 25 #[.bool b2, .slice x2 m2 c2, .slice y2 n2 d2]
  have hJ := hI.ito.new hst
  have hs := bstep h hst
  have hw := bstep H1.out.1 hs
  obtain ⟨W2, hWW⟩ : ∃ W2, w2.alloc (.cells #[.bool b2, .slice x2 m2 c2, .slice y2 n2 d2] 25) = W2 := ⟨_, rfl⟩
  rw [hWW] at hB hJ hs hw
  have H2 := Lib.hid (And.intro hw (And.intro (H1.out.2.1.keep hs) (And.intro (H1.out.2.2.new hs) (And.intro hB hJ))))
  have HW2 := Lib.hid hWW
  clear hst hB hJ hs hw hI h hWW H1
  go_wp2_with fail
  rw [HW2.out]
  refine (HDX.out.2.2.1 _ H2.out.1).mono ?_
  rintro e w3 ⟨b3, x3, m3, c3, y3, n3, d3, rfl, hI, h⟩
  have hst := balloc (Below.refl w3.heap.size w3) (.cells #[.bool b3, .slice x3 m3 c3, .slice y3 n3 d3] 25)
  have hB := Blk.new w3 25 #[.bool b3, .slice x3 m3 c3, .slice y3 n3 d3]
  have hJ := hI.ito.new hst
  have hs := bstep h hst
  have hw := bstep H2.out.1 hs
  obtain ⟨W3, hWW⟩ : ∃ W3, w3.alloc (.cells #[.bool b3, .slice x3 m3 c3, .slice y3 n3 d3] 25) = W3 := ⟨_, rfl⟩
  rw [hWW] at hB hJ hs hw
  have H3 := Lib.hid (And.intro hw (And.intro (H2.out.2.1.keep hs) (And.intro (H2.out.2.2.1.new hs) (And.intro (H2.out.2.2.2.1.keep hs) (And.intro (H2.out.2.2.2.2.new hs) (And.intro hB hJ))))))
  have HW3 := Lib.hid hWW
  clear hst hB hJ hs hw hI h hWW H2
  go_wp2_with fail
  rw [HW3.out]
  refine (HDX.out.2.2.2 _ H3.out.1).mono ?_
  rintro e w4 ⟨b4, x4, m4, c4, y4, n4, d4, rfl, hI, h⟩
  have hst := balloc (Below.refl w4.heap.size w4) (.cells #[.bool b4, .slice x4 m4 c4, .slice y4 n4 d4] 25)
  have hB := Blk.new w4 25 #[.bool b4, .slice x4 m4 c4, .slice y4 n4 d4]
  have hJ := hI.ito.new hst
  have hs := bstep h hst
  have hw := bstep H3.out.1 hs
  obtain ⟨W4, hWW⟩ : ∃ W4, w4.alloc (.cells #[.bool b4, .slice x4 m4 c4, .slice y4 n4 d4] 25) = W4 := ⟨_, rfl⟩
  rw [hWW] at hB hJ hs hw
  have H4 := Lib.hid (And.intro hw (And.intro (H3.out.2.1.keep hs) (And.intro (H3.out.2.2.1.new hs) (And.intro (H3.out.2.2.2.1.keep hs) (And.intro (H3.out.2.2.2.2.1.new hs) (And.intro (H3.out.2.2.2.2.2.1.keep hs) (And.intro (H3.out.2.2.2.2.2.2.new hs) (And.intro hB hJ))))))))
  have HW4 := Lib.hid hWW
  clear hst hB hJ hs hw hI h hWW H3
  have HK := Lib.hid (fun (w' : World) (h : Below W4.heap.size W4 w') => (show w'.cell? ⟨w1.heap.size, 0, none⟩ = some (.bool b1) ∧ w'.cell? ⟨w1.heap.size, 1, none⟩ = some (.slice x1 m1 c1) ∧ w'.cell? ⟨w1.heap.size, 2, none⟩ = some (.slice y1 n1 d1) ∧ w'.cell? ⟨w2.heap.size, 0, none⟩ = some (.bool b2) ∧ w'.cell? ⟨w2.heap.size, 1, none⟩ = some (.slice x2 m2 c2) ∧ w'.cell? ⟨w2.heap.size, 2, none⟩ = some (.slice y2 n2 d2) ∧ w'.cell? ⟨w3.heap.size, 0, none⟩ = some (.bool b3) ∧ w'.cell? ⟨w3.heap.size, 1, none⟩ = some (.slice x3 m3 c3) ∧ w'.cell? ⟨w3.heap.size, 2, none⟩ = some (.slice y3 n3 d3) ∧ w'.cell? ⟨w4.heap.size, 0, none⟩ = some (.bool b4) ∧ w'.cell? ⟨w4.heap.size, 1, none⟩ = some (.slice x4 m4 c4) ∧ w'.cell? ⟨w4.heap.size, 2, none⟩ = some (.slice y4 n4 d4) from ⟨cell_of_row _ _ 0 _ _ _ (Blk.keep (H4.out.2.1) h), cell_of_row _ _ 1 _ _ _ (Blk.keep (H4.out.2.1) h), cell_of_row _ _ 2 _ _ _ (Blk.keep (H4.out.2.1) h), cell_of_row _ _ 0 _ _ _ (Blk.keep (H4.out.2.2.2.1) h), cell_of_row _ _ 1 _ _ _ (Blk.keep (H4.out.2.2.2.1) h), cell_of_row _ _ 2 _ _ _ (Blk.keep (H4.out.2.2.2.1) h), cell_of_row _ _ 0 _ _ _ (Blk.keep (H4.out.2.2.2.2.2.1) h), cell_of_row _ _ 1 _ _ _ (Blk.keep (H4.out.2.2.2.2.2.1) h), cell_of_row _ _ 2 _ _ _ (Blk.keep (H4.out.2.2.2.2.2.1) h), cell_of_row _ _ 0 _ _ _ (Blk.keep (H4.out.2.2.2.2.2.2.2.1) h), cell_of_row _ _ 1 _ _ _ (Blk.keep (H4.out.2.2.2.2.2.2.2.1) h), cell_of_row _ _ 2 _ _ _ (Blk.keep (H4.out.2.2.2.2.2.2.2.1) h)⟩))
  have hk0 := HK.out W4 (Below.refl _ _)
  rw [← HW4.out] at hk0
  obtain ⟨k10, k11, k12, k20, k21, k22, k30, k31, k32, k40, k41, k42⟩ := hk0
  go_wp2_with fail
  rw [HW4.out]
  clear k10 k11 k12 k20 k21 k22 k30 k31 k32 k40 k41 k42
  have hTT : ∀ t, sameT t t = true := fun t => (sameT_true t t).2 rfl
  have HSD := Lib.hid (fun X (h : Below W4.heap.size W4 X) => rsame_o _ W4 tD _ H4.out.2.2.1 HS.out.1 tD _ _ X h (H4.out.2.2.2.2.2.2.1.new h) HS.out.1)
  have HSF := Lib.hid (fun X (h : Below W4.heap.size W4 X) => rsame_o _ W4 tF _ H4.out.2.2.2.2.1 HS.out.2 tF _ _ X h (H4.out.2.2.2.2.2.2.2.2.new h) HS.out.2)
  rw [hTT] at HSD HSF
  clear hTT
  refine (HSD.out _ (Below.refl _ _)).mono ?_
  rintro e w5 ⟨rfl, h5⟩
  have H5 := Lib.hid h5
  clear h5
  obtain ⟨k10, k11, k12, k20, k21, k22, k30, k31, k32, k40, k41, k42⟩ := HK.out w5 H5.out
  go_wp2_with (first | (go_at_call 12; refine (num_any _ _).mono ?_; rintro e wx ⟨rfl, rfl⟩) | fail)
  clear k10 k11 k12 k20 k21 k22 k30 k31 k32 k40 k41 k42
  refine (HSF.out _ H5.out).mono ?_
  rintro e w6 ⟨rfl, h6⟩
  have H6 := Lib.hid (bstep H5.out h6)
  clear h6
  obtain ⟨k10, k11, k12, k20, k21, k22, k30, k31, k32, k40, k41, k42⟩ := HK.out w6 H6.out
  clear HSD HSF HDX
  have hw6 : Below w.heap.size w w6 := bstep H4.out.1 H6.out
  have HW6 := Lib.hid hw6
  clear hw6
  by_cases h0 : nD = 0
  · obtain ⟨⟨hla, hrt⟩, hcv⟩ := HG.out h0
    have HCV := Lib.hid hcv
    have hlen : l.length ≤ 4096 := by rw [HQ.out]; have := HH.out.2; omega
    have HE := Lib.hid (encode_o tD _ _ w6 (show w1.heap.size ≤ w6.heap.size from Nat.le_trans (Nat.le_of_lt H4.out.2.1.lt) H6.out.size) (H4.out.2.2.1.new H6.out) HS.out.1 hrt (by rw [hla]; exact hlen) (HH.out.1.keep HW6.out))
    rw [hla] at HE
    subst h0
    clear hla hrt hlen HG hcv
    go_wp2_with (first | (go_at_call 12; refine (num_any _ _).mono ?_; rintro e wx ⟨rfl, rfl⟩) | fail)
    refine HE.out.mono ?_
    rintro e w7 ⟨z7, p7, q7, rfl, hO7, h7⟩
    obtain ⟨_, _, he⟩ := hO7.is
    cases he
    have hw7 := bstep HW6.out h7
    have cA := conv_bytes _ _ l w7 hO7.bt (by rw [HQ.out]; have := HH.out.2; omega)
    have cB := HCV.out w7 hw7
    have HW7 := Lib.hid hw7
    have HWk := Lib.hid (works_any6 w7 (HH.out.1.keep hw7))
    rw [HQ.out] at cA ⊢
    generalize toS l = st at cA cB
    clear hO7 h7 hw7 HE
    clear k10 k11 k12 k20 k21 k22 k30 k31 k32 k40 k41 k42
    go_wp2_with (first | (go_at_call 12; refine (num_any _ _).mono ?_; rintro e wx ⟨rfl, rfl⟩) | fail)
    refine HWk.out.mono ?_
    rintro e wz ⟨rfl, hz⟩
    have HZ := Lib.hid (bstep HW7.out hz)
    clear hz HWk
    go_wp2_with fail
    go_ret
    exact ⟨rfl, HZ.out⟩
  · have hne : ((nD : Int) != 0) = true := by simp; omega
    have HWk := Lib.hid (works_any6 w6 (HH.out.1.keep HW6.out))
    clear h0 HG
    go_wp2_with (first | (go_at_call 12; refine (num_any _ _).mono ?_; rintro e wx ⟨rfl, rfl⟩) | fail)
    refine HWk.out.mono ?_
    rintro e wz ⟨rfl, hz⟩
    have HZ := Lib.hid (bstep HW6.out hz)
    clear hz HWk
    go_wp2_with fail
    go_ret
    exact ⟨rfl, HZ.out⟩
set_option maxRecDepth 100000 in
set_option maxHeartbeats 8000000 in
theorem reads_walk (x0 : Option Addr) (c0 : Nat) (l : List Nat) (w : World) (hv : Bt w.heap.size w (.slice x0 l.length c0) l) (hl : l.length ≤ 600) (hH : HD w) :
    Calls Tryd.prog 4 #[.slice x0 l.length c0] w fun e w' => e = .returned (.bool true) ∧ Below w.heap.size w w' := by
  have hDx := fun X (hX : Below w.heap.size w X) => (decode_all w.heap.size (.slice x0 l.length c0) l X (hv.new hX) hX.size (hH.keep hX) (by omega)).mono (fun e w' h => DeP.both h)
  have hFx := fun X (hX : Below w.heap.size w X) => (first_all w.heap.size (.slice x0 l.length c0) l X (hv.new hX) hX.size (hH.keep hX) (by omega)).mono (fun e w' h => FiP.both h)
  have hDr := fun X (hX : Below w.heap.size w X) => (rdecode_all w.heap.size (.slice x0 l.length c0) l X (hv.new hX) hX.size (by omega)).mono (fun e w' h => DeP.both h)
  have hFr := fun X (hX : Below w.heap.size w X) => (rfirst_all w.heap.size (.slice x0 l.length c0) l X (hv.new hX) hX.size (by omega)).mono (fun e w' h => FiP.both h)
  have h256 := hv.1
  have hsD : smT ((rdD l).getD (.mk false [] [])) ∧ ∀ t, rdD l = some t → laT 8 t = l ∧ rtB 8 t = true ∧ smT t := by
    have hz : smT (.mk false [] []) := .mk false [] [] (by simp) (by simp) (fun i t h => by simp at h)
    have hall : ∀ t, rdD l = some t → laT 8 t = l ∧ rtB 8 t = true ∧ smT t := fun t ht => by
      unfold rdD at ht
      cases hs : rdS 8 l with
      | none => rw [hs] at ht; cases ht
      | some q =>
        obtain ⟨u, r⟩ := q
        rw [hs] at ht
        cases r with
        | nil =>
          cases ht
          obtain ⟨g1, g2, g3⟩ := rdS_good l _ [] h256 hl hs
          exact ⟨by rw [List.append_nil] at g1; exact g1.symm, g2, g3⟩
        | cons a r => cases ht
    refine ⟨?_, hall⟩
    cases h : rdD l with
    | none => exact hz
    | some t => exact (hall t h).2.2
  have hsF : smT (((rdS 8 l).map (·.1)).getD (.mk false [] [])) := by
    cases h : rdS 8 l with
    | none => exact .mk false [] [] (by simp) (by simp) (fun i t h => by simp at h)
    | some q => exact (rdS_good l q.1 q.2 h256 hl h).2.2
  obtain ⟨tD, htD⟩ : ∃ tD, (rdD l).getD (.mk false [] []) = tD := ⟨_, rfl⟩
  obtain ⟨tF, htF⟩ : ∃ tF, ((rdS 8 l).map (·.1)).getD (.mk false [] []) = tF := ⟨_, rfl⟩
  obtain ⟨nD, hnD⟩ : ∃ nD, (if (rdD l).isSome then 0 else 160) = nD := ⟨_, rfl⟩
  obtain ⟨nF, hnF⟩ : ∃ nF, (if (rdS 8 l).isSome then 0 else 160) = nF := ⟨_, rfl⟩
  obtain ⟨kF, hkF⟩ : ∃ kF, ((rdS 8 l).map fun q => l.length - q.2.length).getD 0 = kF := ⟨_, rfl⟩
  rw [htD, hnD] at hDx hDr
  rw [htF, hnF, hkF] at hFx hFr
  rw [htD] at hsD
  rw [htF] at hsF
  have hgood : nD = 0 → laT 8 tD = l ∧ rtB 8 tD = true := fun h0 => by
    cases h : rdD l with
    | none => rw [h] at hnD; simp at hnD; omega
    | some t =>
      rw [h] at htD
      have e : t = tD := htD
      subst e
      exact ⟨(hsD.2 t h).1, (hsD.2 t h).2.1⟩
  refine reads_core x0 l.length c0 l tD tF nD nF kF w rfl hl hH hsD.1 hsF (fun h0 => ⟨hgood h0, fun X hX => conv_bytes _ _ l X (hv.new hX) (by omega)⟩) hDx hFx hDr hFr
end Go.Proofs.YtjmfnafbjfceoaaDoor

/- item's law: ItemReads of any bytes: none, wherever they point, and too many, too. -/
namespace Go.Proofs.YtjmfnafbjfceoaaDoor
open Go.RowKit Go.Shelf Go.ChangeShapes Go.WideShapes Go.ChangeAt
set_option linter.unusedSimpArgs false
attribute [local irreducible] lb wdG byA byC nuL toS heL
set_option maxRecDepth 100000 in
set_option maxHeartbeats 4000000 in
theorem cut_nil (R : Nat) (x : Option Addr) (c : Nat) (d : Int) (M : Nat) (w : World) (hR : RB w R (.slice x 0 c) d M) :
    Calls Tryd.prog 37 #[.pointer (some ⟨R, 0, none⟩)] w fun e w' => e = .panicked ch160 ∧ w.grownBy w' (some R) := by
  have hW := balloc (Below.refl w.heap.size w) (.cells #[.int .i64 0, .slice none 0 0] 73)
  have hR1 := hR.keep hW
  have hT := Lib.hid (take_over R x 0 1 c (by omega) (by omega) _ (cell_of_row _ _ 0 _ _ _ hR1))
  have HW := Lib.hid hW
  clear hW hR1 hR
  go_enter Tryd.func37, Tryd.ntmps37
  go_wp2_with fail
  refine hT.out.mono ?_
  rintro e w2 ⟨rfl, rfl⟩
  exact ⟨rfl, rfl, grown_of R HW.out⟩
set_option maxRecDepth 100000 in
set_option maxHeartbeats 4000000 in
theorem first1_nil (R : Nat) (x : Option Addr) (c : Nat) (d : Int) (M : Nat) (w : World) (hR : RB w R (.slice x 0 c) d M) :
    Calls Tryd.prog 35 #[.pointer (some ⟨R, 0, none⟩)] w fun e w' => e = .panicked ch160 ∧ w.grownBy w' (some R) := by
  have hW := balloc (Below.refl w.heap.size w) (.cells #[.bool false, .slice none 0 0, .slice none 0 0] 25)
  have hI := Blk.new w 25 #[.bool false, .slice none 0 0, .slice none 0 0]
  have hRl := hR.lt
  obtain ⟨W1, hW1⟩ : ∃ W1, w.alloc (.cells #[.bool false, .slice none 0 0, .slice none 0 0] 25) = W1 := ⟨_, rfl⟩
  rw [hW1] at hW hI
  have hd0 : Below W1.heap.size W1 W1.drew := (Below.refl _ _).drew
  have hWd := bstep hW hd0
  have hRd := hR.keep hWd
  have hId := hI.keep hd0
  have hC := cut_nil R x c d M W1.drew hRd
  have HC := Lib.hid hC
  have r0 : W1.drew.cell? ⟨R, 0, none⟩ = some (.slice x 0 c) := cell_of_row _ _ 0 _ _ _ hRd
  have r1 : W1.drew.cell? ⟨R, 1, none⟩ = some (.int .i64 d) := cell_of_row _ _ 1 _ _ _ hRd
  have r2' : W1.drew.cell? ⟨R, 2, none⟩ = some (.map (some M)) := cell_of_row _ _ 2 _ _ _ hRd
  have HX := Lib.hid (And.intro hWd hId)
  clear hC hR hW hI hd0 hWd hRd hId
  go_enter Tryd.func35, Tryd.ntmps35
  go_wp2_with fail
  refine (wpIn_wide (n := 20)).1 (wpIn_region_any (by kernel_rfl) ?_)
  refine wpAnyIn_take (i := 1) (v := ?vq1) rfl rfl (by kernel_rfl) (by kernel_rfl) (by kernel_rfl) (fun _ _ _ h => h) ⟨Or.inl ⟨by rfl, ?yq1⟩, fun _ => rfl⟩ ?rq1
  case yq1 => (intro w; go_simp <;> with_reducible rfl)
  refine wpAnyIn_ready (rs := [0, 2]) (by kernel_rfl) (by simp) ?_
  refine AllReadyIn.cons rfl (fun K hK => ?_) (AllReadyIn.cons rfl (fun K hK => ?_) (AllReadyIn.nil))
  · go_simp
    refine hK _ _ ?_
    clear hK K
    refine wpAnyIn_ready (rs := [2]) (by kernel_rfl) (by simp) ?_
    refine AllReadyIn.cons rfl (fun K hK => ?_) (AllReadyIn.nil)
    go_simp
    refine ⟨trivial, (callsIn_wide.2 HC.out).mono ?_⟩
    rintro e w3 ⟨rfl, hg3⟩
    exact ⟨rfl, rfl, grown_then' (grown_of R HX.out.1) hg3⟩
  · go_simp
    refine ⟨trivial, (callsIn_wide.2 HC.out).mono ?_⟩
    rintro e w3 ⟨rfl, hg3⟩
    exact ⟨rfl, rfl, grown_then' (grown_of R HX.out.1) hg3⟩

set_option maxRecDepth 100000 in
set_option maxHeartbeats 4000000 in
theorem first_nil (x : Option Addr) (c : Nat) (w : World) :
    Calls Tryd.prog 16 #[.slice x 0 c] w fun e w' => e = .returned (.tuple #[itW false none 0 0 none 0 0, .int .i64 0, .int .i64 160]) ∧ Below w.heap.size w w' := by
  have hmf : ∀ (fn : Fn) (first cap : Array Value) (w : World), (Instr.makeFunc fn first cap).run Tryd.prog w = .ok (.func fn first cap) w := fun _ _ _ _ => rfl
  have hA := Blk.new w 25 #[.bool false, .slice none 0 0, .slice none 0 0]
  have hW := balloc (Below.refl w.heap.size w) (.cells #[.bool false, .slice none 0 0, .slice none 0 0] 25)
  have HX := Lib.hid (And.intro hA hW)
  clear hA hW
  go_enter Tryd.func16, Tryd.ntmps16
  go_wp2_with fail
  refine (kinds_any _).mono ?_
  rintro e w1 ⟨M, rfl, hMw, hM, h1⟩
  obtain ⟨hA, hW⟩ := HX.out
  have hst := balloc (Below.refl w1.heap.size w1) (.cells #[.slice x 0 c, .int .i64 0, .map (some M)] 68)
  have hRb := Blk.new w1 68 #[.slice x 0 c, .int .i64 0, .map (some M)]
  have hA1 := (hA.keep h1).keep hst
  have hW1 := bstep (bstep hW h1) hst
  have hMl : M < w1.heap.size := (Array.getElem?_eq_some_iff.1 hM).1
  have hwl : w.heap.size < w1.heap.size := by have := (hA.keep h1).lt; exact this
  obtain ⟨W2, hW2⟩ : ∃ W2, w1.alloc (.cells #[.slice x 0 c, .int .i64 0, .map (some M)] 68) = W2 := ⟨_, rfl⟩
  rw [hW2] at hst hRb hA1 hW1
  have hRl : w1.heap.size < W2.heap.size := hRb.lt
  obtain ⟨R, hR⟩ : ∃ R, w1.heap.size = R := ⟨_, rfl⟩
  rw [hR] at hRb hRl hMl hwl
  have hRB : RB W2 R (.slice x 0 c) 0 M := hRb
  have hAtt := attempti_gives R 160 W2 hRl (fun wr hwr hsz => first1_nil R x c 0 M wr (hRB.keep hwr))
  have HAT := Lib.hid hAtt
  have H2 := Lib.hid (And.intro hA1 (And.intro hW1 hRl))
  clear hAtt hA hW hst hRb hA1 hW1 hRB hM h1 HX
  go_wp2_with fail
  refine HAT.out.mono ?_
  rintro e w3 ⟨rfl, hg⟩
  have hst := balloc (Below.refl w3.heap.size w3) (.cells #[.bool false, .slice none 0 0, .slice none 0 0] 25)
  have hA3 := (H2.out.1.kept hg (fun e => by injection e; omega)).keep hst
  have hgw : Below w.heap.size w w3 := H2.out.2.1.grown hg H2.out.2.1.size (fun k e => by cases e; omega)
  have hW3 := bstep hgw hst
  have a0 := cell_of_row _ _ 0 _ _ _ hA3
  have a1 := cell_of_row _ _ 1 _ _ _ hA3
  have a2 := cell_of_row _ _ 2 _ _ _ hA3
  have f0 := frozen_of_row _ _ 0 _ _ hA3
  have f1 := frozen_of_row _ _ 1 _ _ hA3
  have f2 := frozen_of_row _ _ 2 _ _ hA3
  have hG := grown_set' (grown_set' (grown_set' (grown_refl (w3.alloc (.cells #[.bool false, .slice none 0 0, .slice none 0 0] 25)) w.heap.size) 0 (.bool false)) 1 (.slice none 0 0)) 2 (.slice none 0 0)
  have HE := Lib.hid (step_world hW3 hG (Nat.le_refl _) (by omega))
  clear hst hA3 hgw hW3 hG hg H2 HAT hR hW2
  go_wp2_with fail
  exact bodyPost_ret (v := .tuple #[itW false none 0 0 none 0 0, .int .i64 0, .int .i64 160]) (by simp [results, Tryd.results16, go_sem, a0, a1, a2]) rfl ⟨rfl, HE.out⟩

set_option maxRecDepth 100000 in
set_option maxHeartbeats 4000000 in
theorem rfirst_nil (x : Option Addr) (c : Nat) (w : World) :
    Calls Tryd.prog 18 #[.slice x 0 c] w fun e w' => e = .returned (.tuple #[itW false none 0 0 none 0 0, .int .i64 0, .int .i64 160]) ∧ Below w.heap.size w w' := by
  have hA := Blk.new w 25 #[.bool false, .slice none 0 0, .slice none 0 0]
  have hW := balloc (Below.refl w.heap.size w) (.cells #[.bool false, .slice none 0 0, .slice none 0 0] 25)
  have HC := Lib.hid (rread_nil x c 8 (w.alloc (.cells #[.bool false, .slice none 0 0, .slice none 0 0] 25)))
  have HX := Lib.hid (And.intro hA hW)
  clear hA hW
  go_enter Tryd.func18, Tryd.ntmps18
  go_wp2_with fail
  refine HC.out.mono ?_
  rintro e w1 ⟨h1, b, x1, m1, c1, y1, n1, d1, k1, rfl⟩
  have hst := balloc (Below.refl w1.heap.size w1) (.cells #[.bool b, .slice x1 m1 c1, .slice y1 n1 d1] 25)
  have hA1 := (HX.out.1.keep h1).keep hst
  have hW1 := bstep (bstep HX.out.2 h1) hst
  have a0 := cell_of_row _ _ 0 _ _ _ hA1
  have a1 := cell_of_row _ _ 1 _ _ _ hA1
  have a2 := cell_of_row _ _ 2 _ _ _ hA1
  have f0 := frozen_of_row _ _ 0 _ _ hA1
  have f1 := frozen_of_row _ _ 1 _ _ hA1
  have f2 := frozen_of_row _ _ 2 _ _ hA1
  have hG := grown_set' (grown_set' (grown_set' (grown_refl (w1.alloc (.cells #[.bool b, .slice x1 m1 c1, .slice y1 n1 d1] 25)) w.heap.size) 0 (.bool false)) 1 (.slice none 0 0)) 2 (.slice none 0 0)
  have HE := Lib.hid (step_world hW1 hG (Nat.le_refl _) (Nat.le_refl _))
  clear hst hA1 hW1 hG h1 HX HC
  go_wp2_with fail
  exact bodyPost_ret (v := .tuple #[itW false none 0 0 none 0 0, .int .i64 0, .int .i64 160]) (by simp [results, Tryd.results18, go_sem, a0, a1, a2]) rfl ⟨rfl, HE.out⟩
theorem reads_nil (x : Option Addr) (c : Nat) (w : World) (hH : HD w) :
    Calls Tryd.prog 4 #[.slice x 0 c] w fun e w' => e = .returned (.bool true) ∧ Below w.heap.size w w' := by
  have hz : smT (.mk false [] []) := .mk false [] [] (by simp) (by simp) (fun i t h => by simp at h)
  refine reads_core x 0 c [] (.mk false [] []) (.mk false [] []) 160 160 0 w rfl (by omega) hH hz hz (fun h => by cases h) (fun X hX => ?_) (fun X hX => ?_) (fun X hX => ?_) (fun X hX => ?_)
  · refine (decode_not 160 0 x 0 c X (.inl (by omega)) (fun Y hY => (first_nil x c Y).mono fun e w' h => ⟨_, _, _, _, _, _, _, h.1, h.2⟩)).mono ?_
    rintro e w' ⟨h1, h2⟩
    exact ⟨_, _, _, _, _, _, _, h1, ItP.zero _ _, h2⟩
  · exact (first_nil x c X).mono fun e w' h => ⟨_, _, _, _, _, _, _, h.1, ItP.zero _ _, h.2⟩
  · refine (rdecode_not 160 0 x 0 c X (.inl (by omega)) (fun Y hY => (rfirst_nil x c Y).mono fun e w' h => ⟨_, _, _, _, _, _, _, h.1, h.2⟩)).mono ?_
    rintro e w' ⟨h1, h2⟩
    exact ⟨_, _, _, _, _, _, _, h1, ItP.zero _ _, h2⟩
  · exact (rfirst_nil x c X).mono fun e w' h => ⟨_, _, _, _, _, _, _, h.1, ItP.zero _ _, h.2⟩
set_option maxRecDepth 100000 in
set_option maxHeartbeats 4000000 in
theorem reads_long (x : Option Addr) (n c : Nat) (hn : 600 < n) (w : World) (hH : HD w) :
    Calls Tryd.prog 4 #[.slice x n c] w fun e w' => e = .returned (.bool true) ∧ Below w.heap.size w w' := by
  have g : (600 : Int) < (n : Int) := by omega
  have HWk := Lib.hid (works_any6 w hH)
  clear hH
  go_enter Tryd.func4, Tryd.ntmps4
  go_wp2_with fail
  refine HWk.out.mono ?_
  rintro e wz ⟨rfl, hz⟩
  have HZ := Lib.hid hz
  clear hz HWk
  go_wp2_with fail
  go_ret
  exact ⟨rfl, HZ.out⟩
set_option maxRecDepth 100000 in
theorem reads_all {H : Type} {enc : TypeId × Value → H} {X : World} {base : Nat} {sp : Nat → Bool} {held : Bool} {d2 : DataW H} {p2 : List MemPlace} {v2 : Value} {r3 : Reach} {b3 : Nat} (hv2 : Value.okWide Tryd.prog X r3 b3 22 v2) (h2 : DataW.Trod enc Tryd.prog X base sp held 22 v2 d2 p2) (hH : HD X) :
    Calls Tryd.prog 4 #[v2] X fun e w' => e = .returned (.bool true) ∧ Below X.heap.size X w' := by
  obtain ⟨x0, l0, c0, rfl⟩ := okWide_slice (show Tryd.prog.underlying 22 = some (.slice 5) by kernel_rfl) hv2
  obtain ⟨fuel, hf⟩ := h2
  have hu : Tryd.prog.underlying 22 = some (.slice 5) := by kernel_rfl
  have hc : Tryd.prog.cellsOf 5 = 1 := by kernel_rfl
  have hcap : c0 ≤ 9223372036854775807 := by
    rcases Go.Deep.open_slice1 hu hc hf with ⟨h0, _⟩ | ⟨a, len, cap, m, n, V, D, Pl, h0, hb, hl, hm, hmm, hx, hall⟩
    · simp [Value.cells] at h0
      obtain ⟨_, _, rfl⟩ := h0
      omega
    · simp [Value.cells] at h0
      obtain ⟨_, _, rfl⟩ := h0
      unfold maxLen at hm; omega
  obtain ⟨l, x, c, he, hb, hz⟩ := bytes_open (v := .slice x0 l0 c0) hf
  cases he
  by_cases hl : l.length ≤ 600
  · cases l with
    | nil => exact reads_nil x0 c0 X hH
    | cons a l =>
      obtain ⟨g1, x, cap, e, g2, g3, g4⟩ := hb
      cases e
      obtain ⟨b, o, rfl, g5, g6, g7⟩ := g4 (by simp)
      exact reads_walk _ c0 (a :: l) X ⟨g1, _, _, rfl, g2, hcap, .inr ⟨b, o, rfl, fun _ => ⟨g5, g6⟩, g7⟩⟩ hl hH
  · exact reads_long x0 _ c0 (by omega) X hH
end Go.Proofs.YtjmfnafbjfceoaaDoor

