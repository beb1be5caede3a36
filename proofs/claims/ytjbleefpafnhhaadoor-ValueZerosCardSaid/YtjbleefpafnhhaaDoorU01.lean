import Derived.Test.YtjbleefpafnhhaaDoorX01
import Derived.Test.YtjbleefpafnhhaaDoorX02
import Derived.Test.YtjbleefpafnhhaaDoorX03
import Derived.Test.YtjbleefpafnhhaaDoorX04
import Derived.Test.YtjbleefpafnhhaaDoorX05
import Derived.Test.YtjbleefpafnhhaaDoorX06
import Derived.Test.YtjbleefpafnhhaaDoorX07
import Derived.Test.YtjbleefpafnhhaaDoorX08
import Derived.Test.YtjbleefpafnhhaaDoorX09
import Derived.Test.YtjbleefpafnhhaaDoorX10
import Derived.Test.YtjbleefpafnhhaaDoorX11
import Derived.Test.YtjbleefpafnhhaaDoorX12
import Derived.Test.YtjbleefpafnhhaaDoorX13
import Derived.Test.YtjbleefpafnhhaaDoorX14
import Derived.Test.YtjbleefpafnhhaaDoorX15
import Derived.Test.YtjbleefpafnhhaaDoorX16
import Derived.Test.YtjbleefpafnhhaaDoorX17
import Derived.Test.YtjbleefpafnhhaaDoorX18
import Derived.Test.YtjbleefpafnhhaaDoorX19
import Derived.Test.YtjbleefpafnhhaaDoorX20
import Derived.Test.YtjbleefpafnhhaaDoorX21
import Derived.Test.YtjbleefpafnhhaaDoorX22
import Derived.Test.YtjbleefpafnhhaaDoorX23
import Derived.Test.YtjbleefpafnhhaaDoorX24
import Derived.Test.YtjbleefpafnhhaaDoorX25
import Derived.Test.YtjbleefpafnhhaaDoorX26
import Derived.Test.YtjbleefpafnhhaaDoorX27
import Derived.Test.YtjbleefpafnhhaaDoorX28
import Derived.Test.YtjbleefpafnhhaaDoorX29
import Derived.Test.YtjbleefpafnhhaaDoorX30
import Derived.Test.YtjbleefpafnhhaaDoorX31
import Derived.Test.YtjbleefpafnhhaaDoorX32
import Derived.Test.YtjbleefpafnhhaaDoorX33

set_option linter.unusedVariables false
set_option linter.unusedSimpArgs false
namespace Go.Proofs.YtjbleefpafnhhaaDoor
open Go.RowKit
theorem wp_region_factsG {P : Program} {ops : Array Oper} {Q : Exit → Act → World → Prop} {id : Nat} {a0 : Act} {w0 : World} (last pa ps : Nat) (D : List Nat) (ds : Nat → Nat) (F : Option Nat → Nat → Value → World → Prop) (G : Option Nat → World → Prop) (B : Nat) (Ea : Nat → World → World → Prop) (Ep : Option Nat → World → World → Prop) (rk : Nat → Nat)
    (hm : P.follows .mixedOrders = true) (hsz : ops.size = last + 1) (hac : acyR ops rk = true) (hnd : needB ops last = true) (hpal : pa < last)
    (hF : ∀ γ k v w w', k < last → (Ext B w w' ∨ (k ≠ ps ∧ Ep γ w w')) → F γ k v w → F γ k v w') (hA : ∀ g k v w w', k < last → k ≠ pa → Ea g w w' → F none k v w → F (some g) k v w') (h0 : G none w0.drew)
    (hs : ∀ γ i a w, i < last → i ≠ pa → Off D a0 a → G γ w → (∀ k, k < last → depB ops i k = true → F γ k (ag a (ds k)) w) →
      wpOp P ops Q i (PostE ops D ds last a0 a i (F γ) (fun w' => Ext B w w' ∨ (i = ps ∧ Ep γ w w')) (G γ)) a w)
    (hpa : ∀ a w, Off D a0 a → G none w → (∀ k, k < last → depB ops pa k = true → F none k (ag a (ds k)) w) → wpOp P ops Q pa (fun a' w' => ∃ g, PostE ops D ds last a0 a pa (F (some g)) (fun w' => Ea g w w') (G (some g)) a' w') a w)
    (hl : ∀ γ a w, Off D a0 a → G γ w → (∀ k, k < last → F γ k (ag a (ds k)) w) → wpOp P ops Q last (fun a' w' => Q .normal a' w') a w) :
    (Code.region id ops true).wp P Q a0 w0 := by
  refine wp_region_inv (fun listed a w => listed.size = last + 1 ∧ ((listed.getD last false = true ∧ (∀ k, k < last + 1 → listed.getD k false = true) ∧ Q .normal a w) ∨ (listed.getD last false = false ∧ (∀ i k, i < last → listed.getD i false = true → depB ops i k = true → listed.getD k false = true) ∧ Off D a0 a ∧ ∃ γ, G γ w ∧ (listed.getD pa false = false → γ = none) ∧ ∀ k, k < last → listed.getD k false = true → F γ k (ag a (ds k)) w))) hm ?_ ?_ ?_
  · have hz : ∀ k, (Array.replicate ops.size false).getD k false = false := fun k => by
      simp only [Array.getD_eq_getD_getElem?, Array.getElem?_replicate]; split <;> rfl
    refine ⟨by simp [hsz], .inr ⟨hz _, fun i k _ h => absurd h (by rw [hz]; simp), Off.refl _ _, none, h0, fun _ => rfl, fun k _ h => absurd h (by rw [hz]; simp)⟩⟩
  · rintro listed a w ⟨hls, h | ⟨h1, _⟩⟩ hr
    · exact h.2.2
    · exfalso
      have hall : ∀ n k, rk k ≤ n → k ≤ last → listed.getD k false = true := by
        intro n
        induction n using Nat.strongRecOn with
        | _ n ih =>
          intro k hkn hk
          cases hb : listed.getD k false with
          | true => rfl
          | false =>
            have := ready_ofR (ops := ops) (listed := listed) (rk := rk) (i := k) (by omega) (by rw [← hb]; exact getD_in (by omega) _ _) (fun j hj hr => ih (rk j) (by omega) j (Nat.le_refl _) (by omega)) hac
            rw [hr] at this
            cases this
      rw [hall (rk last) last (Nat.le_refl _) (Nat.le_refl _)] at h1
      cases h1
  · rintro listed a w i ⟨hls, h⟩ hi
    obtain ⟨hi1, hi2, _⟩ := ready_mem hi
    have hi3 : listed.getD i false = false := by rw [← hi2]; exact getD_in (by omega) _ _
    rcases h with ⟨_, h, _⟩ | ⟨h1, hcl, ho, γ, hg, hγ, hf⟩
    · rw [h i (by omega)] at hi3; cases hi3
    · by_cases hil : i = last
      · subst hil
        have hall : ∀ n k, k < i → i ≤ k + n → listed.getD k false = true := by
          intro n
          induction n with
          | zero => intro k h1 h2; omega
          | succ n ih =>
            intro k hk hn
            have hx := List.all_eq_true.1 hnd k (List.mem_range.2 hk)
            obtain ⟨j, hj, hx⟩ := List.any_eq_true.1 hx
            rw [Bool.and_eq_true, decide_eq_true_eq] at hx
            have hj := List.mem_range.1 hj
            by_cases hji : j = i
            · rw [hji] at hx; exact ready_dep hi hx.2
            · exact hcl j k (by omega) (ih j (by omega) (by omega)) hx.2
        have hall2 : ∀ k, k < i → listed.getD k false = true := fun k hk => hall i k hk (by omega)
        refine wpOp_mono (fun a' w' hq => ?_) (hl γ a w ho hg (fun k hk => hf k hk (hall2 k hk)))
        refine ⟨by simp [hls], .inl ⟨?_, ?_, hq⟩⟩
        · rw [getD_set (by omega), if_pos rfl]
        · intro k hk
          rw [getD_set (by omega)]
          split
          · rfl
          · exact hall2 k (by omega)
      · have hil' : i < last := by omega
        have hcl' : ∀ j k, j < last → (listed.setIfInBounds i true).getD j false = true → depB ops j k = true → (listed.setIfInBounds i true).getD k false = true := by
          intro j k hj hjl hd
          rw [getD_set (by omega)] at hjl ⊢
          split
          · rfl
          · by_cases hji : j = i
            · rw [hji] at hd; exact ready_dep hi hd
            · rw [if_neg hji] at hjl; exact hcl j k hj hjl hd
        have hno : ∀ k, k < last → listed.getD k false = true → depB ops k i = false := by
          intro k hk hkl
          cases hb : depB ops k i with
          | false => rfl
          | true => have := hcl k i hk hkl hb; rw [hi3] at this; cases this
        by_cases hip : i = pa
        · subst hip
          obtain rfl := hγ hi3
          refine wpOp_mono ?_ (hpa a w ho hg (fun k hk hd => hf k hk (ready_dep hi hd)))
          rintro a' w' ⟨g, ho', hk', he, hv, hg'⟩
          refine ⟨by simp [hls], .inr ⟨?_, hcl', ho', some g, hg', ?_, ?_⟩⟩
          · rw [getD_set (by omega), if_neg (by omega)]; exact h1
          · intro h; rw [getD_set (by omega), if_pos rfl] at h; cases h
          · intro k hk hkl
            by_cases hki : k = i
            · subst hki; exact hv
            · rw [getD_set (by omega), if_neg hki] at hkl
              rw [hk' k hk hki (hno k hk hkl)]
              exact hA g k _ w w' hk hki he (hf k hk hkl)
        · refine wpOp_mono ?_ (hs γ i a w hil' hip ho hg (fun k hk hd => hf k hk (ready_dep hi hd)))
          rintro a' w' ⟨ho', hk', he, hv, hg'⟩
          refine ⟨by simp [hls], .inr ⟨?_, hcl', ho', γ, hg', ?_, ?_⟩⟩
          · rw [getD_set (by omega), if_neg (by omega)]; exact h1
          · intro h; rw [getD_set (by omega), if_neg (fun e => hip e.symm)] at h; exact hγ h
          · intro k hk hkl
            by_cases hki : k = i
            · subst hki; exact hv
            · rw [getD_set (by omega), if_neg hki] at hkl
              rw [hk' k hk hki (hno k hk hkl)]
              exact hF γ k _ w w' hk (he.imp (fun h => h) (fun h => ⟨fun e => hki (e.trans h.1.symm), h.2⟩)) (hf k hk hkl)
end Go.Proofs.YtjbleefpafnhhaaDoor

namespace Go.Proofs.YtjbleefpafnhhaaDoor
open Go.RowKit
theorem pv_true {P : List Df} {x : Tr} {t : Ty} (hf : ft P x t = true) (hn : x.nodes ≤ 256) (hd : x.dep ≤ 24) : (pv P x t 24 0).1 = true := ((pv_ok P x t 24 0 (by omega)).2.2).2 ⟨hf, by omega, hd⟩
def dl2 (k : Nat) : Nat := [22, 23, 24, 25, 26, 27, 28, 29, 30, 10].getD k 0
end Go.Proofs.YtjbleefpafnhhaaDoor

