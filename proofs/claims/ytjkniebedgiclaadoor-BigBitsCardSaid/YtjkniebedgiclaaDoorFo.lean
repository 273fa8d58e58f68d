/- big: bare; the digits of bytes. -/
import Derived.Test.YtjkniebedgiclaaDoorFn
namespace Go.Proofs.YtjkniebedgiclaaDoor
open Go.RowKit Go.Shelf

set_option maxRecDepth 100000 in
set_option maxHeartbeats 2000000 in
theorem trim_any (B : Nat) (v : Value) (l : List Nat) (w : World) (hl : l.length ≤ 1000000) (hv : Bto B w v l) :
    Calls Tryd.prog 45 #[v, .string ⟨#[0]⟩] w fun e w' => (∃ v', e = .returned v' ∧ Btn B w v' (dz l)) ∧ w = w' := by
  obtain ⟨h1, x, cap, rfl, h2, h3, h4⟩ := id hv
  by_cases hn : l = []
  · subst hn
    clear h1 h2 h3 h4 hv hl
    go_enter Tryd.func45, Tryd.ntmps45
    go_wp2_with fail
    go_ret
    exact ⟨⟨_, rfl, ⟨by simp [dz], none, 0, rfl, by simp [dz], by simp [dz], fun h => (h rfl).elim⟩, fun _ => rfl⟩, rfl⟩
  · obtain ⟨b, o, rfl, hb, hbx, hc⟩ := h4 hn
    have HT := Lib.hid (trimb_any B l b o cap w hl hn h2 hv)
    have hne : l.length ≠ 0 := fun e => hn (List.eq_nil_of_length_eq_zero e)
    obtain ⟨n, hnl⟩ : ∃ n, l.length = n := ⟨_, rfl⟩
    rw [hnl] at HT hne ⊢
    have g1 : ((n : Int) == 0) = false := by simp; omega
    clear h1 h2 h3 h4 hv hl hb hbx hc hn hnl hne
    go_enter Tryd.func45, Tryd.ntmps45
    go_wp2_with (first | (go_at_call 58; refine HT.out.mono ?_; rintro e w1 ⟨⟨v', rfl, hv'⟩, rfl⟩; have HV := Lib.hid hv'; clear hv') | fail)
    go_ret
    exact ⟨⟨_, rfl, HV.out⟩, rfl⟩
set_option maxRecDepth 100000 in
set_option maxHeartbeats 2000000 in
theorem bare_any (B : Nat) (v : Value) (l : List Nat) (w : World) (hl : l.length ≤ 1000000) (hv : Bto B w v l) :
    Calls Tryd.prog 27 #[v] w fun e w' => (∃ v', e = .returned v' ∧ Btn B w v' (dz l)) ∧ w = w' := by
  have HT := Lib.hid (trim_any B v l w hl hv)
  clear hv
  go_enter Tryd.func27, Tryd.ntmps27
  go_wp2_with (first | (go_at_call 45; refine HT.out.mono ?_; rintro e w1 ⟨⟨v', rfl, hv'⟩, rfl⟩; have HV := Lib.hid hv'; clear hv') | fail)
  go_ret
  exact ⟨⟨_, rfl, HV.out⟩, rfl⟩
end Go.Proofs.YtjkniebedgiclaaDoor
