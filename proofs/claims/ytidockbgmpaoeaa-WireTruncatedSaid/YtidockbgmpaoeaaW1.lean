import Derived.Test.YtidockbgmpaoeaaV
import Derived.Test.YtidockbgmpaoeaaPure3
set_option linter.unusedVariables false
namespace Go.Proofs.Ytidockbgmpaoeaa
open Go.RowKit

/-- 'append(x[:len(x):len(x)], y...)': a new row, or x itself where y is empty. -/
theorem wpList_joinL {w : World} {B B' n m c : Nat} {A A' : Option Addr} {xs ys : List Nat} {ops : Array Oper} {rest : List Oper} {o : Oper} {a : Act} {Q : Exit → Act → World → Prop}
    (hr : Rd w B A (bs xs)) (hr' : Rd w B' A' (bs ys)) (hB : B ≤ w.heap.size) (hn : n = xs.length) (hm : m = ys.length) (hbytes : n + m ≤ 140737488355328)
    (hgd : o.guard = none) (x y : Operand) (ho : o.op = .call { callee := .builtin .append, args := #[x, y], argTypes := #[28, 28] })
    (hs : a.eval x = .slice A n n) (hy : a.eval y = .slice A' m c)
    (h : ∀ A'' c' w', Rd w' w'.heap.size A'' (bs (xs ++ ys)) → n + m ≤ c' → c' ≤ maxLen → Below w.heap.size w w' → wpList Try.prog ops Q rest (a.put o.dst (.slice A'' (n + m) c')) w') :
    wpList Try.prog ops Q (o :: rest) a w := by
  subst hn hm
  obtain ⟨i0, hi0, hz0, hz1, hz2⟩ := info_parts info_u8
  by_cases hys : ys = []
  · subst hys
    have hrun : (Builtin.append_ #[28, 28] o.type #[.slice A xs.length xs.length, .slice A' 0 c]).run Try.prog w = .ok (.slice A xs.length xs.length) w := by
      rcases A with _ | ad <;> rcases A' with _ | ad' <;> simp [Builtin.append_, run_underlying Try.underlying28, sizeOf, typeInfo, hi0, Builtin.lenOf, Builtin.firstCells, storeCells, loadCells, loadCellsFrom]
    refine wpList_plain hgd fun K hK => ?_
    unfold Oper.wp execOp
    simp only [ho, resolve, invoke, builtin, Sem.run_bind, Sem.run_pure, Result.andThen_ok, List.map_toArray, List.map_cons, List.map_nil, hs, hy, List.length_nil, hrun]
    exact hK _ _ (by have := h A xs.length w (by simpa using hr.more hB) (Nat.le_refl _) (by simp only [maxLen]; simp at hbytes; omega) (Below.refl _ _); simpa using this)
  · have hpos : 0 < ys.length := List.length_pos_iff.2 hys
    obtain ⟨b, k, rfl, _, hc⟩ := hr'.at_ (by simpa [bs] using hys)
    have hadd : ∀ (b k j : Nat), (⟨b, k, none⟩ : Addr).add j = ⟨b, k + j, none⟩ := fun b k j => by unfold Addr.add; split <;> simp_all
    have hAn : A = none → xs.length = 0 ∧ xs.length = 0 := fun e => by
      rcases hr with h0 | ⟨b', k', h1, _⟩
      · have : xs = [] := by simpa [bs] using h0
        simp [this]
      · rw [h1] at e; cases e
    refine wpList_append_grows w hgd x y _ ho _ i0 (.int .u8 0) 1 1 Try.underlying28 hi0 hz0 hz1 hz2 rfl (by decide) A xs.length xs.length (bs xs) hs hAn (by simp [bs]) ?_ ⟨b, k, none⟩ ys.length c (bs ys) hy (by simp [bs]) (fun j u hu => by rw [hadd]; exact hc j u hu) (bs_cell ys) (by omega) (by simp only [maxLen]; omega) (by omega) ?_
    · intro b' hb' j u hu
      rcases hr with h0 | ⟨b2, k2, h1, _, hc2⟩
      · rw [h0] at hu; simp at hu
      · rw [h1] at hb'
        cases hb'
        rw [hadd]; exact hc2 j u hu
    · intro v' w' h1 hg
      rw [← bs_app] at h1
      obtain ⟨A'', c', rfl, h2, h3, _⟩ := own_shape h1
      exact h A'' c' w' (Rd.own h1) h2 h3 ((Below.refl _ w).grown hg (Nat.le_refl _) (fun k h => by cases h))

def LawRes (w : World) (e : Ending) (w' : World) : Prop := e = .returned (.bool true) ∧ Below w.heap.size w w'

set_option maxHeartbeats 400000 in
set_option maxRecDepth 100000 in
theorem WireIntRoundTrip_any (n : Int) (A : Option Addr) (m c : Nat) (zs : List Nat) (w : World) (hn1 : -9223372036854775808 ≤ n) (hn2 : n ≤ 9223372036854775807) (hm : m = zs.length) (hr : Rd w w.heap.size A (bs zs)) (hb : ∀ d ∈ zs, d < 256) (hmax : m ≤ 9223372036854775807) :
    Calls Try.prog 6 #[.int .i64 n, .slice A m c] w (LawRes w) := by
  by_cases h2000 : 2000 < m
  · clear hm hb hr
    go_enter Try.func6, Try.ntmps6
    go_wp2_with (go_at_call 12; refine (sanity_any _).mono ?_; rintro e w1 ⟨rfl, hb1⟩)
    go_ret
    exact ⟨rfl, hb1⟩
  · have hel := enc_len n ⟨hn1, hn2⟩
    have hde := Lib.hid (dec_enc n hn1 hn2 zs)
    have hbb : Hid (∀ d ∈ enc n ++ zs, d < 256) := fun d hd => by
      rw [List.mem_append] at hd
      rcases hd with hd | hd
      · exact enc_lt n ⟨hn1, hn2⟩ d hd
      · exact hb d hd
    have HM := Lib.hid hm
    have hd9 : decide (((enc n).length : Int) ≤ 9) = true := by simp; omega
    clear hm hb
    go_enter Try.func6, Try.ntmps6
    go_wp2_with (first
      | (go_at_call 12; refine (sanity_any _).mono ?_; rintro e w4 ⟨rfl, hb4⟩)
      | (go_at_call 14; refine (Int_any n w hn1 hn2).mono ?_; rintro e w1 ⟨v1, rfl, hown1, hb1⟩; obtain ⟨g1, c1, rfl, _, _, hc1, hc2⟩ := hown1.some_ (by omega))
      | (at_builtin; refine wpList_joinL hown1.rd (hr.below hb1) (Nat.le_refl _) rfl HM.out (by omega) rfl _ _ rfl rfl rfl ?_; intro A2 c2 w2 hr2 hc3 hc4 hb2)
      | (go_at_call 24; refine (getInt_call _ _ _ _ _ _ hde.out (by rw [List.length_append, ← HM.out]) hr2 hbb.out hc3 hc4).mono ?_; rintro e w3 ⟨rfl, k, rfl⟩))
    go_ret
    exact ⟨rfl, later (later hb1 (below_drewN hb2 k)) hb4⟩
end Go.Proofs.Ytidockbgmpaoeaa
