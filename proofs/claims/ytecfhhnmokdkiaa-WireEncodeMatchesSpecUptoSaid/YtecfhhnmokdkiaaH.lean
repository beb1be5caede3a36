import Derived.Test.YtecfhhnmokdkiaaG
set_option linter.unusedVariables false
namespace Go.Proofs.Ytecfhhnmokdkiaa
open Go.RowKit

theorem info_dig : (Try.prog.info? 51).map (·.size) = some 16 := by kernel_rfl
/-- Digests as cells. -/
def ds (l : List (List Nat)) : List Value := bs l.flatten

theorem flat_len (l : List (List Nat)) (h : ∀ d ∈ l, d.length = 16) : l.flatten.length = 16 * l.length := by
  induction l with
  | nil => rfl
  | cons d l ih =>
    have h1 := h d (by simp)
    have h2 := ih (fun x hx => h x (by simp [hx]))
    simp only [List.flatten_cons, List.length_append, List.length_cons]; omega
theorem flat_get : ∀ (l : List (List Nat)) (h : ∀ d ∈ l, d.length = 16) (k : Nat) (hk : k < l.length) (j : Nat), j < 16 → l.flatten[k * 16 + j]? = (l[k])[j]?
  | [], _, k, hk, _, _ => by simp at hk
  | d :: l, h, 0, hk, j, hj => by
    have h1 := h d (by simp)
    simp only [List.flatten_cons, List.getElem_cons_zero, Nat.zero_mul, Nat.zero_add]
    rw [List.getElem?_append_left (by omega)]
  | d :: l, h, k + 1, hk, j, hj => by
    have h1 := h d (by simp)
    have ih := flat_get l (fun x hx => h x (by simp [hx])) k (by simpa using hk) j hj
    simp only [List.flatten_cons, List.getElem_cons_succ]
    rw [List.getElem?_append_right (by omega), ← ih]
    congr 1; omega
theorem ds_range {w : World} {b o : Nat} (l : List (List Nat)) (hd : ∀ d ∈ l, d.length = 16) (hc : ∀ j u, (ds l)[j]? = some u → w.cell? ⟨b, o + j, none⟩ = some u) (k : Nat) (hk : k < l.length) : w.rangeAt b (o + k * 16) (bs l[k]) := by
  intro j v hv
  have hj : j < 16 := by
    have h1 := (List.getElem?_eq_some_iff.1 hv).1
    rw [bs_len, hd _ (List.getElem_mem hk)] at h1
    exact h1
  rw [Nat.add_assoc]
  refine hc _ v ?_
  rw [← hv, ds, bs, List.getElem?_map, flat_get l hd k hk j hj, bs, List.getElem?_map]

set_option maxHeartbeats 400000 in
set_option maxRecDepth 100000 in
theorem Digests_any (A : Option Addr) (m cap : Nat) (l : List (List Nat)) (w : World) (hm : m = l.length) (hd : ∀ d ∈ l, d.length = 16) (hr : Rd w w.heap.size A (ds l)) (hl : m ≤ 100000) :
    Calls Try.prog 16 #[.slice A m cap] w fun e w' => ∃ v', e = .returned v' ∧ OwnB w' w.heap.size v' (encL id l) ∧ Below w.heap.size w w' := by
  have hpl : ∀ k, (part id l k).length ≤ 9 + 16 * m := fun k => by rw [hm]; exact part_len_le id 16 l k (fun x hx => by have := hd x hx; simp [this]) (by omega)
  have hp0 := part_zero id l
  have hpa := part_all id l
  have hps := part_succ id l
  rw [← hm] at hp0 hpa
  have HPL := Lib.hid hpl
  have HP0 := Lib.hid hp0
  have HPA := Lib.hid hpa
  have HPS := Lib.hid hps
  have HD := Lib.hid hd
  have HM := Lib.hid hm
  clear hpl hp0 hpa hps hd hm
  go_enter Try.func16, Try.ntmps16
  go_wp2_with (go_at_call 8; refine (Int_any _ _ (by omega) (by omega)).mono ?_; rintro e w1 ⟨v1, rfl, hown1, hbel1⟩)
  go_loopw [3, 5, 11] (fun b _ i wr => ∃ k : Nat, k ≤ m ∧ i = .int .i64 (k : Int) ∧ OwnB wr w.heap.size b (part id l k) ∧ Below w.heap.size w wr) (fun _ _ i _ => m - (intOf i).toNat)
  case atStart => exact ⟨0, Nat.zero_le _, rfl, by rw [HP0.out]; exact hown1, hbel1⟩
  case round =>
    obtain ⟨k, hk, rfl, hown2, hbel2⟩ := hrel
    clear hown1 hbel1
    have hbw := hbel2.size
    by_cases hlt : k < m
    · have hlt' : k < l.length := by have := HM.out; omega
      have hr2 := hr.below hbel2
      obtain ⟨b, o, rfl, _, hc⟩ := hr2.at_ (by intro h; have := congrArg List.length h; rw [ds, bs_len, flat_len l HD.out] at this; simp at this; omega)
      have hrg := Lib.hid (ds_range l HD.out hc k hlt')
      have hdl := Lib.hid (HD.out _ (List.getElem_mem hlt'))
      have hpl := HPL.out k
      have HH := Lib.hid (HPS.out k hlt')
      clear hc hr hr2
      generalize l[k] = d at hrg hdl HH
      have hmm : k * 16 = k * 16 := rfl
      go_wp2_with (first
        | (with_reducible refine wpList_load_mid rfl _ (.tmp 13) rfl b _ rfl (bs d) _ hrg.out Try.underlying51 rfl (by rw [bs_len, hdl.out]; exact info_dig) ?_)
        | (with_reducible refine wpList_store_new rfl _ (.tmp 5) (.tmp 14) rfl rfl rfl info_dig (by simp [bs_len, hdl.out]) rfl (all_oneCell_toArray (bs_cell d)) ?_; intro w5 hbel5 hrow5 hsz5)
        | (at_builtin; refine wpList_putL (hown2.below hbel5) (Rd.row hrow5) hdl.out.symm (by omega) (by rw [hdl.out]; omega) rfl _ _ rfl rfl rfl ?_; intro v6 w6 hown6 hbel6))
      go_roundw
      case rel => exact ⟨k + 1, by omega, by go_num, by rw [HH.out]; exact hown6, hbel2.trans ((hbel5.mono hbw).trans hbel6)⟩
      case measure => simp [intOf]; omega
    · have hkm : k = m := by omega
      subst hkm
      rw [HPA.out] at hown2
      go_wp2
      go_ret
      exact ⟨_, rfl, hown2, hbel2⟩
end Go.Proofs.Ytecfhhnmokdkiaa
