/- big: a number without noughts ahead. -/
import Derived.Test.YtjkniebedgiclaaDoorFm
namespace Go.Proofs.YtjkniebedgiclaaDoor
open Go.RowKit Go.Shelf

/-- Without noughts ahead. -/
def dz (l : List Nat) : List Nat := l.dropWhile (· == 0)
theorem dz_le (l : List Nat) : (dz l).length ≤ l.length := by
  unfold dz
  induction l with
  | nil => exact Nat.le_refl _
  | cons x l ih =>
    rw [List.dropWhile_cons]
    split
    · simp only [List.length_cons]; omega
    · exact Nat.le_refl _
theorem dz_step (l : List Nat) (k : Nat) (h : l[k]? = some 0) : dz (l.drop k) = dz (l.drop (k + 1)) := by
  have hk : k < l.length := by
    by_cases e : k < l.length
    · exact e
    · rw [List.getElem?_eq_none (by omega)] at h; cases h
  rw [List.drop_eq_getElem_cons hk]
  rw [List.getElem?_eq_getElem hk] at h
  injection h with h
  rw [h]; rfl
theorem dz_stop (l : List Nat) (k x : Nat) (h : l[k]? = some x) (hx : x ≠ 0) : dz (l.drop k) = l.drop k := by
  have hk : k < l.length := by
    by_cases e : k < l.length
    · exact e
    · rw [List.getElem?_eq_none (by omega)] at h; cases h
  rw [List.drop_eq_getElem_cons hk]
  rw [List.getElem?_eq_getElem hk] at h
  injection h with h
  rw [h]
  unfold dz
  rw [List.dropWhile_cons, if_neg (by simpa using hx)]
theorem dz_idem (l : List Nat) : dz (dz l) = dz l := by
  unfold dz
  induction l with
  | nil => rfl
  | cons x l ih =>
    by_cases h : (x == 0) = true
    · rw [List.dropWhile_cons, if_pos h, ih]
    · rw [List.dropWhile_cons, if_neg h, List.dropWhile_cons, if_neg h]
theorem dz_mem (l : List Nat) : ∀ x ∈ dz l, x ∈ l := fun _ hx => (List.dropWhile_sublist (· == 0)).mem hx
/-- A slice of bytes that is nil if it holds none. -/
def Btn (B : Nat) (X : World) (v : Value) (l : List Nat) : Prop := Bto B X v l ∧ (l = [] → v = .slice none 0 0)
theorem Btn.is {B : Nat} {X : World} {v : Value} {l : List Nat} (h : Btn B X v l) : ∃ x c, v = .slice x l.length c := by
  obtain ⟨⟨_, x, c, e, _⟩, _⟩ := h
  exact ⟨x, c, e⟩
theorem cutb1 (x : Option Addr) (m c : Nat) (hk : 1 ≤ m) (w : World) : (Instr.slice 22 (.slice x m c) (some (.int .i64 1)) none none).run Tryd.prog w = .ok (sliced x 1 m c 1) w := by
  have h := run_slice_l (P := Tryd.prog) (w := w) (t := 22) (a := x) (len := m) (cap := c) (ht := by kernel_rfl) .i64 (1 : Int) (by omega) (by omega)
  rw [h, show Tryd.prog.elem 22 = 5 by kernel_rfl, show (sizeOf 5).run Tryd.prog w = .ok 1 w by kernel_rfl]
  rfl

set_option maxRecDepth 100000 in
set_option maxHeartbeats 2000000 in
theorem trimb_any (B : Nat) (l : List Nat) (b o cap : Nat) (w : World) (hl : l.length ≤ 1000000) (hn : l ≠ []) (hcap : l.length ≤ cap) (hv : Bto B w (.slice (some ⟨b, o, none⟩) l.length cap) l) :
    Calls Tryd.prog 58 #[.slice (some ⟨b, o, none⟩) l.length cap, .int .u8 0] w fun e w' => (∃ v, e = .returned v ∧ Btn B w v (dz l)) ∧ w = w' := by
  obtain ⟨h1, x, c, hx, h2, h3, h4⟩ := hv
  injection hx with hx1 hx2 hx3
  subst hx3
  obtain ⟨b', o', hx', hb, hbx, hc⟩ := h4 hn
  rw [← hx1] at hx'
  injection hx' with hx'
  injection hx' with hb' ho'
  subst hb'
  subst ho'
  obtain ⟨n, hnl⟩ : ∃ n, l.length = n := ⟨_, rfl⟩
  have HL := Lib.hid (And.intro hnl (And.intro h1 (And.intro hc (And.intro hb hbx))))
  rw [hnl] at hcap hl ⊢
  clear h2 h3 h4 hx1 h1 hn hb hbx hnl hc hx2
  go_enter Tryd.func58, Tryd.ntmps58
  go_wp2_with fail
  go_loopw [0] (fun v wr => ∃ k q : Nat, k ≤ n ∧ (k < n → q = o + k) ∧ v = .slice (some ⟨b, q, none⟩) (n - k) (cap - k) ∧ dz l = dz (l.drop k) ∧ w = wr) (fun v _ => match v with | .slice _ n _ => n | _ => 0)
  case atStart => exact ⟨0, o, by omega, fun _ => rfl, rfl, rfl, rfl⟩
  case round =>
    obtain ⟨k, q, hk, ho, rfl, hd, rfl⟩ := hrel
    by_cases hlt : k < n
    · obtain rfl := ho hlt
      have hkl : k < l.length := by have := HL.out.1; omega
      obtain ⟨u, hu⟩ : ∃ u, l[k]? = some u := ⟨_, List.getElem?_eq_getElem hkl⟩
      have hcc := HL.out.2.2.1 k u hu
      have g0 : (0 : Int) < ((n - k : Nat) : Int) := by omega
      by_cases h0 : u = 0
      · subst h0
        have hct := cutb1 (some ⟨b, o + k, none⟩) (n - k) (cap - k) (by omega)
        obtain ⟨y, l2, c2, hsd⟩ : ∃ y l2 c2, sliced (some ⟨b, o + k, none⟩) 1 (n - k) (cap - k) 1 = .slice y l2 c2 := ⟨_, _, _, rfl⟩
        have hy : l2 = n - (k + 1) ∧ c2 = cap - (k + 1) ∧ ∃ o2, y = some ⟨b, o2, none⟩ ∧ (k + 1 < n → o2 = o + (k + 1)) := by
          unfold sliced at hsd
          injection hsd with e1 e2 e3
          refine ⟨by omega, by omega, ?_⟩
          rw [← e1]
          by_cases h : cap - k = 1
          · rw [if_pos h]; exact ⟨o + k, rfl, fun h2 => by omega⟩
          · rw [if_neg h]; exact ⟨o + (k + 1), rfl, fun _ => rfl⟩
        obtain ⟨rfl, rfl, o2, rfl, ho2⟩ := hy
        rw [hsd] at hct
        have HW := Lib.hid (And.intro (hd.trans (dz_step l k hu)) ho2)
        have hlo : n - (k + 1) < n - k := by omega
        clear hd hsd ho hu ho2
        obtain ⟨m, hm⟩ : ∃ m, n - k = m := ⟨_, rfl⟩
        obtain ⟨m2, hm2⟩ : ∃ m2, n - (k + 1) = m2 := ⟨_, rfl⟩
        obtain ⟨p, hp⟩ : ∃ m, cap - k = m := ⟨_, rfl⟩
        obtain ⟨p2, hp2⟩ : ∃ m2, cap - (k + 1) = m2 := ⟨_, rfl⟩
        have HM := Lib.hid (And.intro hm (And.intro hm2 (And.intro hp hp2)))
        rw [hm] at g0 hct hlo ⊢
        rw [hm2] at hct hlo
        rw [hp] at hct ⊢
        rw [hp2] at hct
        clear hm hm2 hp hp2
        go_wp2_with fail
        exact ⟨⟨k + 1, o2, by omega, HW.out.2, by rw [HM.out.2.1, HM.out.2.2.2], HW.out.1, trivial⟩, hlo⟩
      · have h0' : ((u : Int) == 0) = false := by simp; omega
        have g1 : (((n - k : Nat) : Int) == 0) = false := by simp; omega
        have hz : dz l = l.drop k := hd.trans (dz_stop l k u hu h0)
        have HZ := Lib.hid (And.intro hz hlt)
        clear hd ho hu h0 hz
        obtain ⟨m, hm⟩ : ∃ m, n - k = m := ⟨_, rfl⟩
        have HM := Lib.hid hm
        rw [hm] at g0 g1 ⊢
        clear hm
        go_wp2_with fail
        go_ret
        refine ⟨⟨_, rfl, ⟨fun x hx => HL.out.2.1 x (dz_mem l x hx), some ⟨b, o + k, none⟩, cap - k, ?_, ?_, ?_, fun _ => ⟨b, o + k, rfl, HL.out.2.2.2.1, HL.out.2.2.2.2, fun j u hj => ?_⟩⟩, fun h => ?_⟩, rfl⟩
        · rw [HZ.out.1, List.length_drop, HL.out.1, HM.out]; rfl
        · rw [HZ.out.1, List.length_drop, HL.out.1]; omega
        · rw [HZ.out.1, List.length_drop, HL.out.1]; omega
        · rw [HZ.out.1, List.getElem?_drop] at hj
          rw [Nat.add_assoc]
          exact HL.out.2.2.1 (k + j) u hj
        · rw [HZ.out.1] at h
          have := congrArg List.length h
          rw [List.length_drop, HL.out.1] at this
          simp at this
          have := HZ.out.2
          omega
    · obtain rfl : k = n := by omega
      have hz : dz l = [] := by rw [hd, List.drop_of_length_le (by have := HL.out.1; omega)]; rfl
      have HZ := Lib.hid hz
      have e0 : k - k = 0 := by omega
      rw [e0]
      clear hd ho hz e0
      go_wp2_with fail
      go_ret
      rw [HZ.out]
      exact ⟨⟨_, rfl, ⟨by simp, none, 0, rfl, by simp, by simp, fun h => (h rfl).elim⟩, fun _ => rfl⟩, rfl⟩
end Go.Proofs.YtjkniebedgiclaaDoor
