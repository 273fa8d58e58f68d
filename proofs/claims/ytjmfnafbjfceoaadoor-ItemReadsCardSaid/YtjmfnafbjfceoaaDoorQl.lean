/- Texts laid into one: Ql. -/
import Derived.Test.YtjmfnafbjfceoaaDoorQi
import Derived.Test.YtjmfnafbjfceoaaDoorYt
import Derived.RegionTactic
/- item: what bytes are read as, in plain lists. -/
namespace Go.Proofs.YtjmfnafbjfceoaaDoor
open Go.RowKit Go.Shelf
attribute [local irreducible] lb wdG byA byC
/-- The items one behind the other, each read by f. -/
def itL (f : Nat → List Nat → Option It) : Nat → List Nat → Option (List It)
  | _, [] => some []
  | 0, _ :: _ => none
  | n + 1, x :: xs => match cutS (x :: xs) with
    | none => none
    | some (k, b, r) => match f k b with
      | none => none
      | some t => (itL f n r).map (t :: ·)
/-- What a piece is read as, so deep at most. -/
def rdPl : Nat → Nat → List Nat → Option It
  | 0, _, _ => none
  | d + 1, k, body => if k = 2 then (itL (rdPl d) body.length body).map (It.mk true []) else if koL body = k then some (.mk false body []) else none
/-- The item with which bytes begin, and what is behind. -/
def rdS (d : Nat) (l : List Nat) : Option (It × List Nat) := match cutS l with
  | none => none
  | some (k, b, r) => (rdPl d k b).map fun t => (t, r)
/-- What is left behind so many pieces; the next one's kind and its bytes. -/
def rsF : List Nat → Nat → List Nat
  | b, 0 => b
  | b, i + 1 => match cutS b with
    | none => []
    | some (_, _, r) => rsF r i
def kdF (b : List Nat) (i : Nat) : Nat := match cutS (rsF b i) with
  | none => 0
  | some (k, _, _) => k
def bdF (b : List Nat) (i : Nat) : List Nat := match cutS (rsF b i) with
  | none => []
  | some (_, b, _) => b
theorem leS_len {s : Nat} {r r2 : List Nat} {n : Nat} (h : leS s r = some (n, r2)) : r2.length ≤ r.length := by
  unfold leS at h
  split at h
  · injection h with h; injection h with _ h; rw [h]; exact Nat.le_refl _
  · split at h
    · cases h
    · split at h
      · injection h with h; injection h with _ h; rw [← h]; simp
      · cases h
theorem cut_less {l : List Nat} {k : Nat} {b r : List Nat} (h : cutS l = some (k, b, r)) : b.length + r.length ≤ l.length ∧ r.length < l.length := by
  cases l with
  | nil => cases h
  | cons f r0 =>
    rw [cutS_cons] at h
    split at h
    · injection h with h; injection h with _ h; injection h with h1 h2; subst h1 h2; simp; omega
    · cases hl : leS (f - hdN (kdN f)) r0 with
      | none => rw [hl] at h; cases h
      | some nr =>
        obtain ⟨n, r2⟩ := nr
        rw [hl] at h
        have h2 := leS_len hl
        simp only at h
        split at h
        · cases h
        · injection h with h; injection h with _ h; injection h with h3 h4; subst h3 h4
          simp; omega
theorem rsF_succ {b : List Nat} {k : Nat} {bd r : List Nat} (h : cutS b = some (k, bd, r)) (i : Nat) : rsF b (i + 1) = rsF r i := by
  rw [rsF, h]
theorem rsF_next : ∀ (i : Nat) (b : List Nat) {k : Nat} {bd r : List Nat}, cutS (rsF b i) = some (k, bd, r) → rsF b (i + 1) = r
  | 0, b, k, bd, r, h => by
    have h' : cutS b = some (k, bd, r) := h
    rw [rsF_succ h']; rfl
  | i + 1, b, k, bd, r, h => by
    cases hc : cutS b with
    | none => rw [rsF, hc] at h; cases h
    | some q =>
      obtain ⟨k1, b1, r1⟩ := q
      rw [rsF_succ hc] at h ⊢
      exact rsF_next i r1 h
theorem cut_at {b : List Nat} {i : Nat} (h : cutS (rsF b i) ≠ none) : cutS (rsF b i) = some (kdF b i, bdF b i, rsF b (i + 1)) := by
  cases hc : cutS (rsF b i) with
  | none => exact absurd hc h
  | some q =>
    obtain ⟨k, bd, r⟩ := q
    rw [rsF_next i b hc]
    unfold kdF bdF
    rw [hc]
/-- Bytes are items to their end, or up to a wrong one. -/
theorem itL_parts (f : Nat → List Nat → Option It) : ∀ (n : Nat) (b : List Nat), b.length ≤ n → ∃ ts : List It, ts.length ≤ b.length ∧ (∀ i, i < ts.length → cutS (rsF b i) ≠ none) ∧ (∀ (i : Nat) t, ts[i]? = some t → f (kdF b i) (bdF b i) = some t) ∧
    ((itL f n b = some ts ∧ rsF b ts.length = []) ∨ (itL f n b = none ∧ ((rsF b ts.length ≠ [] ∧ cutS (rsF b ts.length) = none) ∨ (cutS (rsF b ts.length) ≠ none ∧ f (kdF b ts.length) (bdF b ts.length) = none))))
  | n, [], _ => ⟨[], by simp, fun i h => by simp at h, fun i t h => by simp at h, .inl ⟨by cases n <;> rfl, rfl⟩⟩
  | 0, x :: xs, h => by simp at h
  | n + 1, x :: xs, h => by
    cases hc : cutS (x :: xs) with
    | none =>
      refine ⟨[], by simp, fun i h => by simp at h, fun i t h => by simp at h, .inr ⟨by rw [itL, hc], .inl ⟨by simp [rsF], hc⟩⟩⟩
    | some q =>
      obtain ⟨k, b, r⟩ := q
      have hk0 : kdF (x :: xs) 0 = k := by unfold kdF rsF; rw [hc]
      have hb0 : bdF (x :: xs) 0 = b := by unfold bdF rsF; rw [hc]
      have hks : ∀ i, kdF (x :: xs) (i + 1) = kdF r i := fun i => by unfold kdF; rw [rsF_succ hc]
      have hbs : ∀ i, bdF (x :: xs) (i + 1) = bdF r i := fun i => by unfold bdF; rw [rsF_succ hc]
      cases hf : f k b with
      | none =>
        refine ⟨[], by simp, fun i h => by simp at h, fun i t h => by simp at h, .inr ⟨by rw [itL, hc]; simp only; rw [hf], .inr ⟨by simp [rsF, hc], ?_⟩⟩⟩
        show f (kdF (x :: xs) 0) (bdF (x :: xs) 0) = none
        rw [hk0, hb0, hf]
      | some t =>
        have hl := (cut_less hc).2
        obtain ⟨ts, h1, h2, h3, h4⟩ := itL_parts f n r (by omega)
        refine ⟨t :: ts, by simp at hl ⊢; omega, fun i hi => ?_, fun i u hu => ?_, ?_⟩
        · cases i with
          | zero => simp [rsF, hc]
          | succ i => rw [rsF_succ hc]; exact h2 i (by simpa using hi)
        · cases i with
          | zero =>
            simp only [List.getElem?_cons_zero, Option.some.injEq] at hu
            subst hu
            rw [hk0, hb0, hf]
          | succ i => rw [hks, hbs]; exact h3 i u (by simpa using hu)
        · rw [itL, hc]
          simp only [List.length_cons]
          rw [hf, rsF_succ hc, hks, hbs]
          rcases h4 with ⟨h5, h6⟩ | ⟨h5, h6⟩
          · exact .inl ⟨by rw [h5]; rfl, h6⟩
          · exact .inr ⟨by rw [h5]; rfl, h6⟩
end Go.Proofs.YtjmfnafbjfceoaaDoor

/- item: read of any piece, right or wrong. -/
namespace Go.Proofs.YtjmfnafbjfceoaaDoor
open Go.RowKit Go.Shelf
attribute [local irreducible] lb wdG byA byC heL nuL
set_option maxRecDepth 100000 in
set_option maxHeartbeats 4000000 in
theorem read_list_fail (v : Value) (x : Option Addr) (m c : Nat) (d d2 : Int) (M : Nat) (w : World) (hd : 0 ≤ d2 ∧ d2 ≤ 8) (hv0 : ∃ y n e, v = .slice y n e) (hM : KM w M)
    (hit : ∀ X, Below w.heap.size w X → Calls Tryd.prog 54 #[.agg #[.slice x m c, .int .i64 d2, .map (some M)]] X fun e w' => e = .panicked ch160 ∧ Below X.heap.size X w') :
    Calls Tryd.prog 36 #[.agg #[v, .int .i64 d, .map (some M)], .agg #[.int .i64 2, .slice x m c], .int .i64 d2] w fun e w' => e = .panicked ch160 ∧ Below w.heap.size w w' := by
  obtain ⟨y, n, e, rfl⟩ := hv0
  have hW := balloc (balloc (balloc (Below.refl w.heap.size w) (.cells #[.slice y n e, .int .i64 d, .map (some M)] 68)) (.cells #[.int .i64 2, .slice x m c] 73)) (.cells #[.bool false, .slice none 0 0, .slice none 0 0] 25)
  have hPc := (Blk.newS w (.cells #[.slice y n e, .int .i64 d, .map (some M)] 68) 73 #[.int .i64 2, .slice x m c]).alloc (.cells #[.bool false, .slice none 0 0, .slice none 0 0] 25)
  have hsz : ((w.alloc (.cells #[.slice y n e, .int .i64 d, .map (some M)] 68)).alloc (.cells #[.int .i64 2, .slice x m c] 73)).heap.size = w.heap.size + 2 := by simp
  have hI := Blk.new ((w.alloc (.cells #[.slice y n e, .int .i64 d, .map (some M)] 68)).alloc (.cells #[.int .i64 2, .slice x m c] 73)) 25 #[.bool false, .slice none 0 0, .slice none 0 0]
  rw [hsz] at hI
  have hlook := look_at M kES 3 2 2 (.func (.func 54) #[] #[]) _ (hM.keep hW) rfl
  have hg1 : ¬ (8 : Int) < d2 := by omega
  have hRb := Lib.hid (hit _ hW)
  have HX := Lib.hid (And.intro hW (And.intro hPc hI))
  clear hW hPc hI hM hsz hit
  go_enter Tryd.func36, Tryd.ntmps36
  go_wp2_with fail
  refine hRb.out.mono ?_
  clear hlook hRb
  rintro e w1 ⟨rfl, h1⟩
  exact ⟨rfl, rfl, bstep HX.out.1 h1⟩

set_option maxRecDepth 100000 in
set_option maxHeartbeats 4000000 in
theorem read_deep (k : Nat) (v0 : Value) (x : Option Addr) (m c : Nat) (d d2 : Int) (M : Nat) (w : World) (hd : 8 < d2) (hv0 : ∃ y n e, v0 = .slice y n e) :
    Calls Tryd.prog 36 #[.agg #[v0, .int .i64 d, .map (some M)], .agg #[.int .i64 (k : Nat), .slice x m c], .int .i64 d2] w fun e w' => e = .panicked ch160 ∧ Below w.heap.size w w' := by
  obtain ⟨y, n, e, rfl⟩ := hv0
  have hW := balloc (balloc (balloc (Below.refl w.heap.size w) (.cells #[.slice y n e, .int .i64 d, .map (some M)] 68)) (.cells #[.int .i64 (k : Nat), .slice x m c] 73)) (.cells #[.bool false, .slice none 0 0, .slice none 0 0] 25)
  go_enter Tryd.func36, Tryd.ntmps36
  go_wp2_with fail
  exact ⟨rfl, rfl, hW⟩
set_option maxRecDepth 100000 in
set_option maxHeartbeats 2000000 in
theorem items1_fail (R k : Nat) (y : Option Addr) (m c : Nat) (v0 : Value) (d d3 : Int) (M : Nat) (w : World) (hR : RB w R v0 d M) (hv0 : ∃ y n e, v0 = .slice y n e) (hd : IntKind.i64.wrap (d + 1) = d3)
    (hrd : ∀ Y, Below w.heap.size w Y → Calls Tryd.prog 36 #[.agg #[v0, .int .i64 d, .map (some M)], .agg #[.int .i64 (k : Nat), .slice y m c], .int .i64 d3] Y fun e w' => e = .panicked ch160 ∧ Below Y.heap.size Y w') :
    Calls Tryd.prog 75 #[.agg #[.int .i64 (k : Nat), .slice y m c], .pointer (some ⟨R, 0, none⟩)] w fun e w' => e = .panicked ch160 ∧ Below w.heap.size w w' := by
  obtain ⟨y0, n0, e0, rfl⟩ := hv0
  have hW := balloc (balloc (Below.refl w.heap.size w) (.cells #[.int .i64 (k : Nat), .slice y m c] 73)) (.cells #[.bool false, .slice none 0 0, .slice none 0 0] 25)
  have hI := Blk.newS w (.cells #[.int .i64 (k : Nat), .slice y m c] 73) 25 #[.bool false, .slice none 0 0, .slice none 0 0]
  have r0 := cell_of_row _ _ 0 _ _ _ hR
  have r1 := cell_of_row _ _ 1 _ _ _ hR
  have r2 := cell_of_row _ _ 2 _ _ _ hR
  have hRl := hR.lt
  have HC := Lib.hid (hrd _ hW)
  have HX := Lib.hid (And.intro hW hI)
  clear hW hI hrd hR
  go_enter Tryd.func75, Tryd.ntmps75
  go_wp2_with fail
  refine HC.out.mono ?_
  rintro e w1 ⟨rfl, h1⟩
  exact ⟨rfl, rfl, bstep HX.out.1 h1⟩

set_option maxRecDepth 100000 in
set_option maxHeartbeats 2000000 in
theorem ritems_fail (x : Option Addr) (m c : Nat) (B M NB : Nat) (d : Int) (kd : Nat → Nat) (bd rs : Nat → List Nat) (ts : List It) (w : World) (hB : B ≤ w.heap.size) (hgR : 0 < w.heap.size) (hN : ts.length ≤ 4096)
    (hv : Bt B w (.slice x m c) (rs 0)) (hH : HD w) (hP : ∀ i, i < NB → cutS (rs i) = some (kd i, bd i, rs (i + 1))) (hE : NB = ts.length + 1 ∨ NB = ts.length ∧ rs ts.length ≠ [] ∧ cutS (rs ts.length) = none)
    (hI : ∀ (i : Nat) t y c' X, ts[i]? = some t → Below w.heap.size w X → RB X w.heap.size (.slice x m c) d M → Bt B X (.slice y (bd i).length c') (bd i) → Calls Tryd.prog 75 #[.agg #[.int .i64 (kd i : Nat), .slice y (bd i).length c'], .pointer (some ⟨w.heap.size, 0, none⟩)] X fun e w' => ∃ v, e = .returned v ∧ ItP (fun b => X.heap.size ≤ b) w' t v ∧ Below X.heap.size X w')
    (hF : ∀ y c' X, ts.length < NB → Below w.heap.size w X → RB X w.heap.size (.slice x m c) d M → Bt B X (.slice y (bd ts.length).length c') (bd ts.length) → Calls Tryd.prog 75 #[.agg #[.int .i64 (kd ts.length : Nat), .slice y (bd ts.length).length c'], .pointer (some ⟨w.heap.size, 0, none⟩)] X fun e w' => e = .panicked ch160 ∧ Below X.heap.size X w') :
    Calls Tryd.prog 54 #[.agg #[.slice x m c, .int .i64 d, .map (some M)]] w fun e w' => e = .panicked ch160 ∧ Below w.heap.size w w' := by
  have hmf : ∀ (fn : Fn) (first cap : Array Value) (w : World), (Instr.makeFunc fn first cap).run Tryd.prog w = .ok (.func fn first cap) w := fun _ _ _ _ => rfl
  have hW := balloc (balloc (balloc (Below.refl w.heap.size w) (.cells #[.slice x m c, .int .i64 d, .map (some M)] 68)) (.cells #[.bool false, .slice none 0 0, .slice none 0 0] 25)) (.cells #[.slice x m c, .int .i64 d, .map (some M)] 68)
  have hR1 := ((Blk.new w 68 #[.slice x m c, .int .i64 d, .map (some M)]).alloc (.cells #[.bool false, .slice none 0 0, .slice none 0 0] 25)).alloc (.cells #[.slice x m c, .int .i64 d, .map (some M)] 68)
  have hI1 := (Blk.newS w (.cells #[.slice x m c, .int .i64 d, .map (some M)] 68) 25 #[.bool false, .slice none 0 0, .slice none 0 0]).alloc (.cells #[.slice x m c, .int .i64 d, .map (some M)] 68)
  have hR2 := Blk.new ((w.alloc (.cells #[.slice x m c, .int .i64 d, .map (some M)] 68)).alloc (.cells #[.bool false, .slice none 0 0, .slice none 0 0] 25)) 68 #[.slice x m c, .int .i64 d, .map (some M)]
  have hsz : ((w.alloc (.cells #[.slice x m c, .int .i64 d, .map (some M)] 68)).alloc (.cells #[.bool false, .slice none 0 0, .slice none 0 0] 25)).heap.size = w.heap.size + 2 := by simp
  rw [hsz] at hR2
  have HM := Lib.hid (made_fail w.heap.size (w.heap.size + 2) B M NB d kd bd rs (.slice x m c) ts _ hB hgR (by omega) hN hR1 hR2 (hv.new hW) (hH.keep hW) hP hE (fun i t y c' X h1 h2 => hI i t y c' X h1 (hW.trans h2)) (fun y c' X h1 h2 => hF y c' X h1 (hW.trans h2)))
  have HW := Lib.hid (And.intro hW hI1)
  have HSZ := Lib.hid hsz
  clear hW hR1 hI1 hR2 hsz hI hF hH hv
  go_enter Tryd.func54, Tryd.ntmps54
  go_wp2_with fail
  refine (pieces_any (.slice x m c) d M _ ⟨_, _, _, rfl⟩).mono ?_
  rintro e w1 ⟨rfl, rfl⟩
  rename_i K hK
  refine hK _ _ ?_
  clear hK K
  rw [HSZ.out]
  refine wpList_plain rfl fun K hK => ?_
  go_simp
  refine hK _ _ ?_
  clear hK K
  refine wpList_plain rfl fun K hK => ?_
  go_simp
  refine HM.out.mono ?_
  rintro e w2 ⟨rfl, h2⟩
  exact ⟨rfl, rfl, HW.out.1.trans h2⟩

theorem rs_le : ∀ (i : Nat) (b : List Nat), (rsF b i).length ≤ b.length
  | 0, b => Nat.le_refl _
  | i + 1, b => by
    cases hc : cutS b with
    | none => rw [rsF, hc]; simp
    | some q =>
      obtain ⟨k, b1, r⟩ := q
      rw [rsF_succ hc]
      have h1 := rs_le i r
      have h2 := (cut_less hc).2
      omega
theorem bd_le (i : Nat) (b : List Nat) : (bdF b i).length ≤ b.length := by
  unfold bdF
  cases hc : cutS (rsF b i) with
  | none => simp
  | some q =>
    obtain ⟨k, b1, r⟩ := q
    have h1 := (cut_less hc).1
    have h2 := rs_le i b
    simp only
    omega
theorem cut_kind {l : List Nat} {k : Nat} {b r : List Nat} (h : cutS l = some (k, b, r)) : k ≤ 2 := by
  cases l with
  | nil => cases h
  | cons f r0 =>
    rw [cutS_cons] at h
    split at h
    · injection h with h; injection h with h _; omega
    · have hk : kdN f ≤ 2 := by unfold kdN; split <;> (try split) <;> omega
      cases hl : leS (f - hdN (kdN f)) r0 with
      | none => rw [hl] at h; cases h
      | some nr =>
        rw [hl] at h
        simp only at h
        split at h
        · cases h
        · injection h with h; injection h with h _; omega
theorem kd_le (i : Nat) (b : List Nat) : kdF b i ≤ 2 := by
  unfold kdF
  cases hc : cutS (rsF b i) with
  | none => simp
  | some q =>
    obtain ⟨k, b1, r⟩ := q
    exact cut_kind hc
/-- What read owes. -/
def RaP (o : Option It) (w : World) (e : Ending) (w' : World) : Prop := Below w.heap.size w w' ∧ (match o with
  | some t => ∃ v, e = .returned v ∧ ItP (fun b => w.heap.size ≤ b) w' t v
  | none => e = .panicked ch160)
theorem RaP.some {t : It} {w : World} {e : Ending} {w' : World} (h : ∃ v, e = .returned v ∧ ItP (fun b => w.heap.size ≤ b) w' t v ∧ Below w.heap.size w w') : RaP (some t) w e w' := by
  obtain ⟨v, h1, h2, h3⟩ := h
  exact ⟨h3, v, h1, h2⟩
theorem RaP.none {w : World} {e : Ending} {w' : World} (h : e = .panicked ch160 ∧ Below w.heap.size w w') : RaP none w e w' := ⟨h.2, h.1⟩
theorem rdP_list (d : Nat) (body : List Nat) : rdPl (d + 1) 2 body = (itL (rdPl d) body.length body).map (It.mk true []) := by rw [rdPl, if_pos rfl]
theorem rdP_byte (d k : Nat) (body : List Nat) (hk : k ≠ 2) : rdPl (d + 1) k body = if koL body = k then some (.mk false body []) else none := by rw [rdPl, if_neg hk]
/-- read of any piece. -/
theorem read_all (d : Nat) (hd8 : d ≤ 8) : ∀ (k : Nat) (body : List Nat) (v0 : Value) (x : Option Addr) (m c B : Nat) (dd : Int) (M : Nat) (w : World), k ≤ 2 → (∃ y n e, v0 = .slice y n e) → B ≤ w.heap.size → 0 < w.heap.size → HD w → KM w M → body.length ≤ 4096 → Bt B w (.slice x m c) body →
    Calls Tryd.prog 36 #[.agg #[v0, .int .i64 dd, .map (some M)], .agg #[.int .i64 (k : Nat), .slice x m c], .int .i64 (9 - d : Nat)] w (RaP (rdPl d k body) w) := by
  induction d with
  | zero =>
    intro k body v0 x m c B dd M w hk hv0 hB hgR hH hM hl hb
    exact (read_deep k v0 x m c dd (9 - 0 : Nat) M w (by omega) hv0).mono fun e w' h => RaP.none h
  | succ d ih =>
    intro k body v0 x m c B dd M w hk hv0 hB hgR hH hM hl hb
    by_cases hk2 : k = 2
    · subst hk2
      obtain ⟨ts, h1, h2, h3, h4⟩ := itL_parts (rdPl d) body.length body (Nat.le_refl _)
      have hItem : ∀ X, Below w.heap.size w X → ∀ (k' : Nat) (b' : List Nat) (t : Option It) y c' X2, rdPl d k' b' = t → k' ≤ 2 → b'.length ≤ 4096 → Below X.heap.size X X2 → Bt B X2 (.slice y b'.length c') b' → ∀ Y, Below X2.heap.size X2 Y → Calls Tryd.prog 36 #[.agg #[.slice x m c, .int .i64 (9 - (d + 1) : Nat), .map (some M)], .agg #[.int .i64 (k' : Nat), .slice y b'.length c'], .int .i64 (9 - d : Nat)] Y (RaP t Y) := by
        intro X hX k' b' t y c' X2 ht hk' hl' hX2 hb' Y hY
        have := ih (by omega) k' b' (.slice x m c) y b'.length c' B (9 - (d + 1) : Nat) M Y hk' ⟨_, _, _, rfl⟩ (by have := hX.size; have := hX2.size; have := hY.size; omega) (by have := hX.size; have := hX2.size; have := hY.size; omega) (((hH.keep hX).keep hX2).keep hY) (((hM.keep hX).keep hX2).keep hY) hl' (hb'.new hY)
        rw [ht] at this
        exact this
      have hwr : IntKind.i64.wrap (((9 - (d + 1) : Nat) : Int) + 1) = ((9 - d : Nat) : Int) := (IntWalk.i64_in _ (by omega)).trans (by omega)
      have hI : ∀ X, Below w.heap.size w X → ∀ (i : Nat) t y c' X2, ts[i]? = some t → Below X.heap.size X X2 → RB X2 X.heap.size (.slice x m c) (9 - (d + 1) : Nat) M → Bt B X2 (.slice y (bdF body i).length c') (bdF body i) → Calls Tryd.prog 75 #[.agg #[.int .i64 (kdF body i : Nat), .slice y (bdF body i).length c'], .pointer (some ⟨X.heap.size, 0, none⟩)] X2 fun e w' => ∃ v, e = .returned v ∧ ItP (fun b => X2.heap.size ≤ b) w' t v ∧ Below X2.heap.size X2 w' := by
        intro X hX i t y c' X2 ht hX2 hR hbb
        refine items1_any X.heap.size (kdF body i) y _ c' _ (9 - (d + 1) : Nat) (9 - d : Nat) M t X2 hR ⟨_, _, _, rfl⟩ hwr (fun Y hY => ?_)
        refine (hItem X hX (kdF body i) (bdF body i) (some t) y c' X2 (h3 i t ht) (kd_le i body) (Nat.le_trans (bd_le i body) hl) hX2 hbb Y hY).mono ?_
        rintro e w' ⟨q1, v, q2, q3⟩
        exact ⟨v, q2, q3, q1⟩
      rcases h4 with ⟨h5, h6⟩ | ⟨h5, h6⟩
      · rw [rdP_list, h5]
        refine (read_list ts v0 x m c dd (9 - (d + 1) : Nat) M w ⟨by omega, by omega⟩ hv0 hM (fun X hX => ?_)).mono fun e w' h => RaP.some h
        exact ritems_any x m c B M _ (kdF body) (bdF body) (rsF body) ts X (Nat.le_trans hB hX.size) (Nat.lt_of_lt_of_le hgR hX.size) (by omega) (hb.new hX) (hH.keep hX) (fun i hi => cut_at (h2 i hi)) h6 (hI X hX)
      · rw [rdP_list, h5]
        refine (read_list_fail v0 x m c dd (9 - (d + 1) : Nat) M w ⟨by omega, by omega⟩ hv0 hM (fun X hX => ?_)).mono fun e w' h => RaP.none h
        by_cases hc : cutS (rsF body ts.length) = none
        · have h7 : rsF body ts.length ≠ [] := by
            rcases h6 with h | h
            · exact h.1
            · exact absurd hc h.1
          exact ritems_fail x m c B M ts.length _ (kdF body) (bdF body) (rsF body) ts X (Nat.le_trans hB hX.size) (Nat.lt_of_lt_of_le hgR hX.size) (by omega) (hb.new hX) (hH.keep hX) (fun i hi => cut_at (h2 i hi)) (.inr ⟨rfl, h7, hc⟩) (hI X hX) (fun y c' X2 h => by omega)
        · have h7 : rdPl d (kdF body ts.length) (bdF body ts.length) = none := by
            rcases h6 with h | h
            · exact absurd h.2 hc
            · exact h.2
          refine ritems_fail x m c B M (ts.length + 1) _ (kdF body) (bdF body) (rsF body) ts X (Nat.le_trans hB hX.size) (Nat.lt_of_lt_of_le hgR hX.size) (by omega) (hb.new hX) (hH.keep hX) (fun i hi => cut_at ?_) (.inl rfl) (hI X hX) (fun y c' X2 _ hX2 hR hbb => ?_)
          · by_cases hi2 : i < ts.length
            · exact h2 i hi2
            · rw [show i = ts.length by omega]; exact hc
          · refine items1_fail X.heap.size (kdF body ts.length) y _ c' _ (9 - (d + 1) : Nat) (9 - d : Nat) M X2 hR ⟨_, _, _, rfl⟩ hwr (fun Y hY => ?_)
            refine (hItem X hX _ _ none y c' X2 h7 (kd_le _ body) (Nat.le_trans (bd_le _ body) hl) hX2 hbb Y hY).mono ?_
            rintro e w' ⟨q1, q2⟩
            exact ⟨q2, q1⟩
    · rw [rdP_byte d k body hk2]
      refine (read_bytes B v0 k x m c body dd (9 - (d + 1) : Nat) M w (by omega) ⟨by omega, by omega⟩ hv0 hb (by omega) hM hH).mono ?_
      rintro e w' ⟨q1, q2⟩
      by_cases hko : koL body = k
      · rw [if_pos hko] at q2 ⊢
        obtain ⟨y, m2, c2, rfl, hO⟩ := q2
        exact ⟨q1, _, rfl, ItP.bytes hO (by omega)⟩
      · rw [if_neg hko] at q2 ⊢
        exact ⟨q1, q2⟩
end Go.Proofs.YtjmfnafbjfceoaaDoor

/- item: First and Decode of any bytes. -/
namespace Go.Proofs.YtjmfnafbjfceoaaDoor
open Go.RowKit Go.Shelf
attribute [local irreducible] lb wdG byA byC heL nuL
set_option maxRecDepth 100000 in
set_option maxHeartbeats 4000000 in
theorem first1_fail (B R : Nat) (v : Value) (l : List Nat) (d : Int) (M : Nat) (k : Nat) (body r2 : List Nat) (w : World) (hR : RB w R v d M) (hv : Bt B w v l) (hB : B ≤ R) (hH : HD w) (hgR : 0 < R) (hM : KM w M) (hMR : M ≠ R) (_hl : l.length ≤ 4096) (hcs : cutS l = some (k, body, r2)) (hrd : ∀ X vv x m c, (∃ y n e, vv = .slice y n e) → w.heap.size ≤ X.heap.size → HD X → KM X M → Bt B X (.slice x m c) body → Calls Tryd.prog 36 #[.agg #[vv, .int .i64 d, .map (some M)], .agg #[.int .i64 k, .slice x m c], .int .i64 1] X fun e w' => e = .panicked ch160 ∧ Below X.heap.size X w') :
    Calls Tryd.prog 35 #[.pointer (some ⟨R, 0, none⟩)] w fun e w' => e = .panicked [{ v := .iface 28 (.int .i64 160), recovered := false }] ∧ w.grownBy w' (some R) := by
  obtain ⟨_, y, e, rfl, _⟩ := id hv
  have hW := balloc (Below.refl w.heap.size w) (.cells #[.bool false, .slice none 0 0, .slice none 0 0] 25)
  have hI := Blk.new w 25 #[.bool false, .slice none 0 0, .slice none 0 0]
  have hRl := hR.lt
  obtain ⟨W1, hW1⟩ : ∃ W1, w.alloc (.cells #[.bool false, .slice none 0 0, .slice none 0 0] 25) = W1 := ⟨_, rfl⟩
  rw [hW1] at hW hI
  have hd0 : Below W1.heap.size W1 W1.drew := (Below.refl _ _).drew
  have hWd := bstep hW hd0
  have hRd := hR.keep hWd
  have hvd := hv.new hWd
  have hHd := hH.keep hWd
  have hMd := hM.keep hWd
  have hId := hI.keep hd0
  have hC := cut_any B R _ l d M W1.drew hRd hvd hB hHd hgR
  rw [hcs] at hC
  have HC := Lib.hid (hC.mono (R' := fun e w' => ∃ x m c, e = .returned (.agg #[.int .i64 k, .slice x m c]) ∧ Bt B w' (.slice x m c) body ∧ (∃ v2, RB w' R v2 d M ∧ Bt B w' v2 r2) ∧ W1.drew.grownBy w' (some R)) (fun e w' h => by obtain ⟨x, m, c, h1, h2, h3⟩ := h.2; exact ⟨x, m, c, h1, h2, h3, h.1⟩))
  have HRD := Lib.hid hrd
  clear hrd
  have r0 : W1.drew.cell? ⟨R, 0, none⟩ = some (.slice y l.length e) := cell_of_row _ _ 0 _ _ _ hRd
  have r1 : W1.drew.cell? ⟨R, 1, none⟩ = some (.int .i64 d) := cell_of_row _ _ 1 _ _ _ hRd
  have r2' : W1.drew.cell? ⟨R, 2, none⟩ = some (.map (some M)) := cell_of_row _ _ 2 _ _ _ hRd
  have HX := Lib.hid (And.intro hWd (And.intro hHd (And.intro hMd hId)))
  clear hC hR hv hH hM hW hI hd0 hWd hRd hvd hHd hMd hId hcs
  obtain ⟨N, hN⟩ : ∃ N, l.length = N := ⟨_, rfl⟩
  rw [hN] at r0
  clear hN
  go_enter Tryd.func35, Tryd.ntmps35
  go_wp2_with fail
  refine (wpIn_wide (n := 20)).1 (wpIn_region_any (by kernel_rfl) ?_)
  refine wpAnyIn_take (i := 1) (v := ?vq1) rfl rfl (by kernel_rfl) (by kernel_rfl) (by kernel_rfl) (fun _ _ _ h => h) ⟨Or.inl ⟨by rfl, ?yq1⟩, fun _ => rfl⟩ ?rq1
  case yq1 => (intro w; go_simp <;> with_reducible rfl)
  refine wpAnyIn_ready (rs := [0, 2]) (by kernel_rfl) (by simp) ?_
  refine AllReadyIn.cons rfl (fun K hK => ?_) (AllReadyIn.cons rfl (fun K hK => ?_) (AllReadyIn.nil))
  · go_simp
    refine hK _ _ ?_
    clear hK K
    refine wpAnyIn_ready (rs := [2]) (by kernel_rfl) (by simp) ?_
    refine AllReadyIn.cons rfl (fun K hK => ?_) (AllReadyIn.nil)
    go_simp
    refine ⟨trivial, (callsIn_wide.2 HC.out).mono ?_⟩
    rintro e w3 ⟨x3, m3, c3, rfl, hb3, ⟨v3, hR3, hv3⟩, hg3⟩
    have hH3 := HX.out.2.1.far (by omega) hg3
    have hM3 := HX.out.2.2.1.kept hg3 (fun e => by injection e; omega)
    have hI3 := HX.out.2.2.2.kept hg3 (fun e => by injection e; omega)
    have hgw3 := grown_then' (grown_of R HX.out.1) hg3
    obtain ⟨_, y3, e3, rfl, _⟩ := id hv3
    have q0 : w3.cell? ⟨R, 0, none⟩ = some (.slice y3 r2.length e3) := cell_of_row _ _ 0 _ _ _ hR3
    have q1 : w3.cell? ⟨R, 1, none⟩ = some (.int .i64 d) := cell_of_row _ _ 1 _ _ _ hR3
    have q2 : w3.cell? ⟨R, 2, none⟩ = some (.map (some M)) := cell_of_row _ _ 2 _ _ _ hR3
    have hRead := fun (vv : Value) (hvv : ∃ y n e, vv = .slice y n e) => HRD.out w3 vv x3 m3 c3 hvv (by have h1 := hg3.size; have h2 := HX.out.1.size; omega) hH3 hM3 hb3
    have HR := Lib.hid hRead
    have H3 := Lib.hid (And.intro hR3 (And.intro hv3 (And.intro hI3 (And.intro hgw3 hg3))))
    clear hb3 hR3 hv3 hg3 hH3 hM3 hI3 hgw3 hRead
    refine hK _ _ ?_
    clear hK K
    refine wpAnyIn_ready (rs := [3]) (by kernel_rfl) (by simp) ?_
    refine AllReadyIn.cons rfl (fun K hK => ?_) (AllReadyIn.nil)
    go_simp
    refine ⟨trivial, (callsIn_wide.2 (HR.out (.slice y N e) ⟨_, _, _, rfl⟩)).mono ?_⟩
    rintro e w4 ⟨he4, h4⟩
    subst he4
    exact ⟨rfl, rfl, grown_then H3.out.2.2.2.1 h4⟩
  · go_simp
    refine ⟨trivial, (callsIn_wide.2 HC.out).mono ?_⟩
    rintro e w3 ⟨x3, m3, c3, rfl, hb3, ⟨v3, hR3, hv3⟩, hg3⟩
    have hH3 := HX.out.2.1.far (by omega) hg3
    have hM3 := HX.out.2.2.1.kept hg3 (fun e => by injection e; omega)
    have hI3 := HX.out.2.2.2.kept hg3 (fun e => by injection e; omega)
    have hgw3 := grown_then' (grown_of R HX.out.1) hg3
    obtain ⟨_, y3, e3, rfl, _⟩ := id hv3
    have q0 : w3.cell? ⟨R, 0, none⟩ = some (.slice y3 r2.length e3) := cell_of_row _ _ 0 _ _ _ hR3
    have q1 : w3.cell? ⟨R, 1, none⟩ = some (.int .i64 d) := cell_of_row _ _ 1 _ _ _ hR3
    have q2 : w3.cell? ⟨R, 2, none⟩ = some (.map (some M)) := cell_of_row _ _ 2 _ _ _ hR3
    have hRead := fun (vv : Value) (hvv : ∃ y n e, vv = .slice y n e) => HRD.out w3 vv x3 m3 c3 hvv (by have h1 := hg3.size; have h2 := HX.out.1.size; omega) hH3 hM3 hb3
    have HR := Lib.hid hRead
    have H3 := Lib.hid (And.intro hR3 (And.intro hv3 (And.intro hI3 (And.intro hgw3 hg3))))
    clear hb3 hR3 hv3 hg3 hH3 hM3 hI3 hgw3 hRead
    refine hK _ _ ?_
    clear hK K
    refine wpAnyIn_ready (rs := [0]) (by kernel_rfl) (by simp) ?_
    refine AllReadyIn.cons rfl (fun K hK => ?_) (AllReadyIn.nil)
    go_simp
    refine hK _ _ ?_
    clear hK K
    refine wpAnyIn_ready (rs := [3]) (by kernel_rfl) (by simp) ?_
    refine AllReadyIn.cons rfl (fun K hK => ?_) (AllReadyIn.nil)
    go_simp
    refine ⟨trivial, (callsIn_wide.2 (HR.out (.slice y3 r2.length e3) ⟨_, _, _, rfl⟩)).mono ?_⟩
    rintro e w4 ⟨he4, h4⟩
    subst he4
    exact ⟨rfl, rfl, grown_then H3.out.2.2.2.1 h4⟩

set_option maxRecDepth 100000 in
set_option maxHeartbeats 4000000 in
theorem first_fail (B : Nat) (v : Value) (l : List Nat) (w : World) (hv : Bt B w v l) (hB : B ≤ w.heap.size) (hH : HD w) (hl : l.length ≤ 4096)
    (hcs : cutS l = none ∨ ∃ k body r2, cutS l = some (k, body, r2) ∧ ∀ M X vv x m c, (∃ y n e, vv = .slice y n e) → w.heap.size ≤ X.heap.size → HD X → KM X M → Bt B X (.slice x m c) body → Calls Tryd.prog 36 #[.agg #[vv, .int .i64 0, .map (some M)], .agg #[.int .i64 k, .slice x m c], .int .i64 1] X fun e w' => e = .panicked ch160 ∧ Below X.heap.size X w') :
    Calls Tryd.prog 16 #[v] w fun e w' => e = .returned (.tuple #[itW false none 0 0 none 0 0, .int .i64 0, .int .i64 160]) ∧ Below w.heap.size w w' := by
  have hmf : ∀ (fn : Fn) (first cap : Array Value) (w : World), (Instr.makeFunc fn first cap).run Tryd.prog w = .ok (.func fn first cap) w := fun _ _ _ _ => rfl
  obtain ⟨_, x, c, rfl, _⟩ := id hv
  have g : ¬ (4096 : Int) < (l.length : Int) := by omega
  have hA := Blk.new w 25 #[.bool false, .slice none 0 0, .slice none 0 0]
  have hW := balloc (Below.refl w.heap.size w) (.cells #[.bool false, .slice none 0 0, .slice none 0 0] 25)
  have HX := Lib.hid (And.intro hA (And.intro hW (And.intro (hv.new hW) (hH.keep hW))))
  have hgl := hH.lt
  clear hA hW hv hH
  obtain ⟨q, hq⟩ : ∃ q, l.length = q := ⟨_, rfl⟩
  have HQ := Lib.hid hq
  have HCS := Lib.hid hcs
  rw [hq] at g hl HX ⊢
  clear hq hcs
  go_enter Tryd.func16, Tryd.ntmps16
  go_wp2_with fail
  refine (kinds_any _).mono ?_
  rintro e w1 ⟨M, rfl, hMw, hM, h1⟩
  obtain ⟨hA, hW, hb, hH⟩ := HX.out
  have hst := balloc (Below.refl w1.heap.size w1) (.cells #[.slice x q c, .int .i64 0, .map (some M)] 68)
  have hRb := Blk.new w1 68 #[.slice x q c, .int .i64 0, .map (some M)]
  have hA1 := (hA.keep h1).keep hst
  have hW1 := bstep (bstep hW h1) hst
  have hb1 := (hb.new h1).new hst
  have hH1 := (hH.keep h1).keep hst
  have hM1 := hM.keep hst
  have hMl : M < w1.heap.size := (Array.getElem?_eq_some_iff.1 hM).1
  have hwl : w.heap.size < w1.heap.size := by have := (hA.keep h1).lt; exact this
  obtain ⟨W2, hW2⟩ : ∃ W2, w1.alloc (.cells #[.slice x q c, .int .i64 0, .map (some M)] 68) = W2 := ⟨_, rfl⟩
  rw [hW2] at hst hRb hA1 hW1 hb1 hH1 hM1
  have hRl : w1.heap.size < W2.heap.size := hRb.lt
  obtain ⟨R, hR⟩ : ∃ R, w1.heap.size = R := ⟨_, rfl⟩
  rw [hR] at hRb hRl hMl hwl
  have hRB : RB W2 R (.slice x q c) 0 M := hRb
  have hAtt := attempti_gives R 160 W2 hRl (fun wr hwr hsz => by
    rcases HCS.out with h | ⟨k, body, r2, h1, h2⟩
    · exact first1_cut B R _ l 0 M wr (hRB.keep hwr) (hb1.new hwr) (by omega) (hH1.keep hwr) (by omega) (hM1.keep hwr) (by omega) (by rw [HQ.out]; exact hl) h
    · exact first1_fail B R _ l 0 M k body r2 wr (hRB.keep hwr) (hb1.new hwr) (by omega) (hH1.keep hwr) (by omega) (hM1.keep hwr) (by omega) (by rw [HQ.out]; exact hl) h1 (fun X vv x m c a1 a2 a3 a4 a5 => h2 M X vv x m c a1 (by have := hwr.size; omega) a3 a4 a5))
  have HAT := Lib.hid hAtt
  have H2 := Lib.hid (And.intro hA1 (And.intro hW1 hRl))
  clear hAtt hA hW hb hH hst hRb hA1 hW1 hb1 hH1 hM1 hRB hM h1 HX
  go_wp2_with fail
  refine HAT.out.mono ?_
  rintro e w3 ⟨rfl, hg⟩
  have hst := balloc (Below.refl w3.heap.size w3) (.cells #[.bool false, .slice none 0 0, .slice none 0 0] 25)
  have hA3 := (H2.out.1.kept hg (fun e => by injection e; omega)).keep hst
  have hgw : Below w.heap.size w w3 := H2.out.2.1.grown hg H2.out.2.1.size (fun k e => by cases e; omega)
  have hW3 := bstep hgw hst
  have a0 := cell_of_row _ _ 0 _ _ _ hA3
  have a1 := cell_of_row _ _ 1 _ _ _ hA3
  have a2 := cell_of_row _ _ 2 _ _ _ hA3
  have f0 := frozen_of_row _ _ 0 _ _ hA3
  have f1 := frozen_of_row _ _ 1 _ _ hA3
  have f2 := frozen_of_row _ _ 2 _ _ hA3
  have hG := grown_set' (grown_set' (grown_set' (grown_refl (w3.alloc (.cells #[.bool false, .slice none 0 0, .slice none 0 0] 25)) w.heap.size) 0 (.bool false)) 1 (.slice none 0 0)) 2 (.slice none 0 0)
  have HE := Lib.hid (step_world hW3 hG (Nat.le_refl _) (by omega))
  clear hst hA3 hgw hW3 hG hg H2 HAT hR hW2
  go_wp2_with fail
  exact bodyPost_ret (v := .tuple #[itW false none 0 0 none 0 0, .int .i64 0, .int .i64 160]) (by simp [results, Tryd.results16, go_sem, a0, a1, a2]) rfl ⟨rfl, HE.out⟩

/-- What First owes. -/
def FiP (o : Option (It × List Nat)) (l : List Nat) (w : World) (e : Ending) (w' : World) : Prop := Below w.heap.size w w' ∧ (match o with
  | some (t, r) => ∃ b x m c y n d, e = .returned (.tuple #[itW b x m c y n d, .int .i64 (l.length - r.length : Nat), .int .i64 0]) ∧ ItP (fun b => w.heap.size ≤ b) w' t (itW b x m c y n d)
  | none => e = .returned (.tuple #[itW false none 0 0 none 0 0, .int .i64 0, .int .i64 160]))
theorem rdS_cut {d : Nat} {l : List Nat} {k : Nat} {b r : List Nat} (h : cutS l = some (k, b, r)) : rdS d l = (rdPl d k b).map fun t => (t, r) := by unfold rdS; rw [h]
/-- First of any bytes that are not too many. -/
theorem first_all (B : Nat) (v : Value) (l : List Nat) (w : World) (hv : Bt B w v l) (hB : B ≤ w.heap.size) (hH : HD w) (hl : l.length ≤ 4096) :
    Calls Tryd.prog 16 #[v] w (FiP (rdS 8 l) l w) := by
  cases hc : cutS l with
  | none =>
    have e : rdS 8 l = none := by unfold rdS; rw [hc]
    rw [e]
    exact (first_fail B v l w hv hB hH hl (.inl hc)).mono fun e w' h => ⟨h.2, h.1⟩
  | some q =>
    obtain ⟨k, body, r⟩ := q
    have hbl := (cut_less hc).1
    have hk := cut_kind hc
    rw [rdS_cut hc]
    have hrd := fun (M : Nat) (X : World) (vv : Value) (x : Option Addr) (m c : Nat) (h1 : ∃ y n e, vv = .slice y n e) (h2 : w.heap.size ≤ X.heap.size) (h3 : HD X) (h4 : KM X M) (h5 : Bt B X (.slice x m c) body) =>
      read_all 8 (by omega) k body vv x m c B 0 M X hk h1 (Nat.le_trans hB h2) (Nat.lt_of_lt_of_le hH.lt h2) h3 h4 (by omega) h5
    cases hr : rdPl 8 k body with
    | none =>
      rw [hr] at hrd
      refine (first_fail B v l w hv hB hH hl (.inr ⟨k, body, r, hc, fun M X vv x m c h1 h2 h3 h4 h5 => (hrd M X vv x m c h1 h2 h3 h4 h5).mono fun e w' h => ⟨h.2, h.1⟩⟩)).mono fun e w' h => ⟨h.2, h.1⟩
    | some t =>
      rw [hr] at hrd
      refine (first_tree t B v l k body r w hv hB hH hl hc (fun M X vv x m c h1 h2 h3 h4 h5 => (hrd M X vv x m c h1 h2 h3 h4 h5).mono fun e w' h => ?_)).mono fun e w' h => ?_
      · obtain ⟨q1, v, q2, q3⟩ := h
        exact ⟨v, q2, q3, q1⟩
      · obtain ⟨b, x, m, c, y, n, d, h1, h2, h3⟩ := h
        exact ⟨h3, b, x, m, c, y, n, d, h1, h2⟩
/-- What Decode owes. -/
def DeP (o : Option It) (w : World) (e : Ending) (w' : World) : Prop := Below w.heap.size w w' ∧ (match o with
  | some t => ∃ b x m c y n d, e = .returned (.tuple #[itW b x m c y n d, .int .i64 0]) ∧ ItP (fun b => w.heap.size ≤ b) w' t (itW b x m c y n d)
  | none => e = .returned (.tuple #[itW false none 0 0 none 0 0, .int .i64 160]))
/-- The item of bytes. -/
def rdD (l : List Nat) : Option It := match rdS 8 l with
  | some (t, []) => some t
  | _ => none
theorem rdS_less {d : Nat} {l : List Nat} {t : It} {r : List Nat} (h : rdS d l = some (t, r)) : r.length < l.length := by
  unfold rdS at h
  cases hc : cutS l with
  | none => rw [hc] at h; cases h
  | some q =>
    obtain ⟨k, b, r2⟩ := q
    rw [hc] at h
    simp only at h
    cases hr : rdPl d k b with
    | none => rw [hr] at h; cases h
    | some u =>
      rw [hr] at h
      cases h
      exact (cut_less hc).2
/-- Decode of any bytes that are not too many. -/
theorem decode_all (B : Nat) (v : Value) (l : List Nat) (w : World) (hv : Bt B w v l) (hB : B ≤ w.heap.size) (hH : HD w) (hl : l.length ≤ 4096) :
    Calls Tryd.prog 13 #[v] w (DeP (rdD l) w) := by
  obtain ⟨_, y, c, rfl, _⟩ := id hv
  have hF := fun X (hX : Below w.heap.size w X) => first_all B (.slice y l.length c) l X (hv.new hX) (Nat.le_trans hB hX.size) (hH.keep hX) hl
  unfold rdD
  cases hs : rdS 8 l with
  | none =>
    rw [hs] at hF
    refine (decode_not 160 0 y l.length c w (.inl (by omega)) (fun X hX => (hF X hX).mono fun e w' h => ?_)).mono fun e w' h => ⟨h.2, h.1⟩
    exact ⟨_, _, _, _, _, _, _, h.2, h.1⟩
  | some q =>
    obtain ⟨t, r⟩ := q
    rw [hs] at hF
    have hlt := rdS_less hs
    cases r with
    | nil =>
      refine (decode_fits t y l.length c w (fun X hX => (hF X hX).mono fun e w' h => ?_)).mono fun e w' h => ?_
      · obtain ⟨q1, b, x, m, c, y, n, d, q2, q3⟩ := h
        exact ⟨b, x, m, c, y, n, d, q2, q3, q1⟩
      · obtain ⟨b, x, m, c, y, n, d, q2, q3, q1⟩ := h
        exact ⟨q1, b, x, m, c, y, n, d, q2, q3⟩
    | cons a r =>
      refine (decode_not 0 (l.length - (a :: r).length) y l.length c w (.inr (by simp at hlt ⊢; omega)) (fun X hX => (hF X hX).mono fun e w' h => ?_)).mono fun e w' h => ⟨h.2, h.1⟩
      obtain ⟨q1, b, x, m, c, y, n, d, q2, q3⟩ := h
      exact ⟨b, x, m, c, y, n, d, q2, q1⟩
end Go.Proofs.YtjmfnafbjfceoaaDoor

