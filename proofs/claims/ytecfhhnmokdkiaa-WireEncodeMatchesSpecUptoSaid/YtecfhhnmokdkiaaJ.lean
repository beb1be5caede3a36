import Derived.Test.YtecfhhnmokdkiaaI
import Derived.Test.YtecfhhnmokdkiaaPure2
set_option linter.unusedVariables false
namespace Go.Proofs.Ytecfhhnmokdkiaa
open Go.RowKit

/-- 'make([]T, n)', T of one cell. -/
theorem wpList_makeV {P : Program} {w : World} {ops : Array Oper} {rest : List Oper} {o : Oper} {a : Act} {Q : Exit → Act → World → Prop} {t e : TypeId} {z : Value} {bytes n : Nat} {kl kc : IntKind} {L C : Int}
    (h1 : P.underlying t = some (.slice e)) (hi : (P.info? e).map (fun i => (i.zero, i.size, i.bytes)) = some (some z, 1, bytes)) (hz : z.cells = #[z]) (b2 : bytes * n ≤ 281474976710656) (b3 : n ≤ maxLen)
    (hg : o.guard = none) (l c : Operand) (hop : o.op = Op.makeSlice t l c) (hl : a.eval l = .int kl L) (hc : a.eval c = .int kc C) (hL : L = (n : Int)) (hC : C = (n : Int))
    (hK : ∀ w', w'.ownsRow w.heap.size e 1 (.slice (some ⟨w.heap.size, 0, none⟩) n n) n (List.replicate n z) → Below w.heap.size w w' → w.heap.size < w'.heap.size → wpList P ops Q rest (a.put o.dst (.slice (some ⟨w.heap.size, 0, none⟩) n n)) w') :
    wpList P ops Q (o :: rest) a w := by
  obtain ⟨i0, hi0, hz0, hz1, hz2⟩ := info_parts hi
  refine wpList_make_full w hg l c t hop w.heap.size e i0 z 1 h1 hi0 hz0 hz1 kl kc L C n hl hc hL hC (by rw [hz2]; exact b2) b3 (Nat.le_refl _) ?_
  intro w' h2 h3
  rw [hz, Nat.mul_one, toList_madeCells_one] at h2
  exact hK w' h2 ((Below.refl _ w).grown h3 (Nat.le_refl _) (fun k h => by cases h)) (World.ownsRow.lt h2 w.heap.size rfl).2

theorem info_int : (Try.prog.info? 3).map (fun i => (i.zero, i.size, i.bytes)) = some (some (.int .i64 0), 1, 8) := by kernel_rfl

/-- Three variables of the call's own, and what was there. -/
structure Vars (w w2 : World) (x y z : Value) : Prop where
  c0 : w2.cell? ⟨w.heap.size, 0, none⟩ = some x
  c1 : w2.cell? ⟨w.heap.size + 1, 0, none⟩ = some y
  c2 : w2.cell? ⟨w.heap.size + 1 + 1, 0, none⟩ = some z
  f2 : w2.frozen? ⟨w.heap.size + 1 + 1, 0, none⟩ = false
  bel : Below w.heap.size w w2
  sz : w.heap.size + 1 + 1 < w2.heap.size
theorem Vars.made {w w2 : World} {k : Nat} {x y z : Value} {tx ty tz : TypeId} (h1 : x.oneCell' = true) (h2 : y.oneCell' = true) (h3 : z.oneCell' = true)
    (hb : Below ((((w.alloc (.cells #[x] tx)).alloc (.cells #[y] ty)).drewN k).alloc (.cells #[z] tz)).heap.size ((((w.alloc (.cells #[x] tx)).alloc (.cells #[y] ty)).drewN k).alloc (.cells #[z] tz)) w2) : Vars w w2 x y z := by
  have hs : ((((w.alloc (.cells #[x] tx)).alloc (.cells #[y] ty)).drewN k).alloc (.cells #[z] tz)).heap.size = w.heap.size + 1 + 1 + 1 := by simp
  have hb0 : Below w.heap.size w ((((w.alloc (.cells #[x] tx)).alloc (.cells #[y] ty)).drewN k).alloc (.cells #[z] tz)) :=
    (below_drewN (((Below.refl _ w).alloc (Nat.le_refl _) _).alloc (by simp) _) k).alloc (by simp; omega) _
  refine ⟨?_, ?_, ?_, ?_, hb0.trans (hb.mono (by rw [hs]; omega)), by have := hb.size; rw [hs] at this; omega⟩
  · rw [hb.cell (by rw [hs]; show w.heap.size < _; omega)]; simp [go_sem]
  · rw [hb.cell (by rw [hs]; show w.heap.size + 1 < _; omega)]; simp [go_sem]
  · rw [hb.cell (by rw [hs]; show w.heap.size + 1 + 1 < _; omega)]; simp [go_sem]
  · rw [hb.frozen (by rw [hs]; show w.heap.size + 1 + 1 < _; omega)]; simp [go_sem]

theorem Vars.setU {w w2 : World} {x y z : Value} (h : Vars w w2 x y z) (q : Nat) (z' : Value) : Vars w ((w2.drewN q).setCell ⟨w.heap.size + 1 + 1, 0, none⟩ z') x y z' := by
  refine ⟨?_, ?_, ?_, ?_, (below_drewN h.bel q).setCell (by show w.heap.size ≤ w.heap.size + 1 + 1; omega) _, by have := h.sz; simpa using this⟩
  · exact (World.cell?_setCell_other _ _ _ _ (by simp)).trans h.c0
  · exact (World.cell?_setCell_other _ _ _ _ (by simp)).trans h.c1
  · exact World.cell?_setCell_same _ _ _ h.c2
  · exact (World.frozen?_setCell _ _ _ _).trans h.f2
theorem Vars.far {w w2 : World} {x y z : Value} (h : Vars w w2 x y z) {p : Addr} (hp : w.heap.size + 1 + 1 < p.block) (u : Value) : Vars w (w2.setCell p u) x y z := by
  refine ⟨?_, ?_, ?_, ?_, h.bel.setCell (by omega) _, by have := h.sz; simpa using this⟩
  · exact (World.cell?_setCell_other _ _ _ _ (by intro e; subst e; simp at hp; omega)).trans h.c0
  · exact (World.cell?_setCell_other _ _ _ _ (by intro e; subst e; simp at hp; omega)).trans h.c1
  · exact (World.cell?_setCell_other _ _ _ _ (by intro e; subst e; simp at hp)).trans h.c2
  · exact (World.frozen?_setCell _ _ _ _).trans h.f2
theorem Vars.later {w w2 w3 : World} {x y z : Value} (h : Vars w w2 x y z) (hb : Below w2.heap.size w2 w3) : Vars w w3 x y z := by
  have := h.sz
  exact ⟨(hb.cell (by show w.heap.size < _; omega)).trans h.c0, (hb.cell (by show w.heap.size + 1 < _; omega)).trans h.c1, (hb.cell h.sz).trans h.c2, (hb.frozen h.sz).trans h.f2, h.bel.trans (hb.mono (by omega)), by have := hb.size; omega⟩

theorem set_next {α : Type} (xs : List α) (N : Nat) (f : α → Value) (z : Value) (x : α) (h : xs.length < N) : (xs.map f ++ List.replicate (N - xs.length) z).set xs.length (f x) = (xs ++ [x]).map f ++ List.replicate (N - (xs ++ [x]).length) z := by
  obtain ⟨k, hk⟩ : ∃ k, N - xs.length = k + 1 := ⟨N - xs.length - 1, by omega⟩
  have hk2 : N - (xs ++ [x]).length = k := by simp; omega
  rw [hk, hk2, List.replicate_succ]
  have hl : xs.length = (xs.map f).length := by simp
  rw [List.set_append_right _ _ (by omega), ← hl]
  simp

/-- What a list's decoder leaves. -/
def LRes (w : World) (e : TypeId) (vs : List Value) (u er : Nat) (en : Ending) (w' : World) : Prop :=
  ∃ v', en = .returned (.tuple #[v', .int .i64 (u : Int), .int .i64 (er : Int)]) ∧ w'.ownsRow w.heap.size e 1 v' vs.length vs ∧ Below w.heap.size w w'

set_option maxHeartbeats 1000000 in
set_option maxRecDepth 100000 in
theorem getListInt_any (m cap : Nat) (A : Option Addr) (zs : List Nat) (w : World) (hm : m = zs.length) (hr : Rd w w.heap.size A (bs zs)) (hb : ∀ d ∈ zs, d < 256) (hcap : m ≤ cap) (hcap2 : cap ≤ maxLen) (hm2 : m ≤ 100000) :
    Calls Try.prog 36 #[.slice A m cap, .int .i64 1, .func (.func 18) #[] #[]] w (LRes w 3 (is (getL 1 dec zs).1) (getL 1 dec zs).2.1 (getL 1 dec zs).2.2) := by
  obtain ⟨n, u, er, hd⟩ : ∃ n u er, getLen 1 zs = (n, u, er) := ⟨_, _, _, rfl⟩
  rw [getL_eq hd]
  have hcall := fun W (hr : Rd W w.heap.size A (bs zs)) => getLength_call m w.heap.size cap 1 1 A zs W hd hm rfl hr hb hcap hcap2 (by omega) (by omega)
  have HC := Lib.hid hcall
  have her := getLen_er hd
  have hrb : ∀ W, Below w.heap.size w W → Rd W w.heap.size A (bs zs) := fun W hW => hr.below hW
  have HR := Lib.hid hrb
  clear hcall hrb
  by_cases h1 : er = 0
  · subst h1
    obtain ⟨h2, h3, h4, h5⟩ := getLen_ok (by omega) hd
    obtain ⟨N, rfl⟩ := Int.eq_ofNat_of_zero_le h2
    simp only [Int.toNat_natCast, Nat.mul_one] at h4 ⊢
    rw [if_neg (by simp)]
    have h4m : u + N ≤ m := by omega
    have HM := Lib.hid hm
    have HB := Lib.hid hb
    clear h4 h5 hd her hm hb hr h2
    go_enter Try.func36, Try.ntmps36
    go_wp2_with (first
      | (go_at_call 34; refine (HC.out _ (HR.out _ (((Below.refl _ _).alloc (Nat.le_refl _) _).alloc (by simp) _))).mono ?_; rintro e w1 ⟨rfl, k, rfl⟩)
      | (with_reducible refine wpList_makeV (n := N) Try.underlying22 info_int rfl (by omega) (by simp only [maxLen]; omega) rfl (.tmp 26) (.tmp 26) rfl rfl rfl rfl rfl ?_; intro w2 hown2 hbel2 hsz2))
    have hv2 := Vars.made rfl rfl rfl hbel2
    simp at hown2 hsz2
    clear hbel2
    go_loopw [30] (fun i wr => ∃ (xs : List Int) (at_ : Nat), i = .int .i64 (xs.length : Int) ∧ Vars w wr (.slice A m cap) (.func (.func 18) #[] #[]) (.int .i64 (at_ : Int)) ∧
        wr.ownsRow (w.heap.size + 1 + 1 + 1) 3 1 (.slice (some ⟨w.heap.size + 1 + 1 + 1, 0, none⟩) N N) N (xs.map (Value.int .i64) ++ List.replicate (N - xs.length) (.int .i64 0)) ∧ Sofar dec N u zs xs at_)
      (fun i _ => N - (intOf i).toNat)
    case atStart => exact ⟨[], u, rfl, hv2, by simpa using hown2, Sofar.start (by have := HM.out; omega)⟩
    case round =>
      obtain ⟨xs, at_, rfl, hv, hown, hs⟩ := hrel
      clear hown2 hsz2 hv2
      have hxl := hs.len
      by_cases hlt : xs.length < N
      · obtain ⟨n, k, er, hg⟩ : ∃ n k er, dec (zs.drop at_) = (n, k, er) := ⟨_, _, _, rfl⟩
        have hle := dec_le hg
        rw [List.length_drop] at hle
        have hat : at_ + k ≤ m := by have := hs.hi; have := HM.out; omega
        have hnx := fun W (hv : Vars w W (.slice A m cap) (.func (.func 18) #[] #[]) (.int .i64 (at_ : Int))) => nextInt_any _ _ _ w.heap.size m cap at_ A zs n k er W HM.out (HR.out _ hv.bel) HB.out hcap hcap2 (by have := hs.lo; omega) (by omega) hv.c1 hv.c0 hv.c2 hv.f2 hg hat
        have HNX := Lib.hid hnx
        have hcell : wr.cell? ⟨w.heap.size + 1 + 1 + 1, xs.length, none⟩ = some (.int .i64 0) := by
          rw [hown.cellAt xs.length (by omega)]
          rw [List.getElem?_append_right (by simp), List.getElem?_replicate, if_pos (by simp; omega)]
        have hset := Lib.hid (set_next xs N (Value.int .i64) (.int .i64 0) n hlt)
        have hfr := hown.frozenAt xs.length
        have hb3 : ∀ q, wr.cell? ⟨w.heap.size + 1 + 1 + 1, xs.length, none⟩ = some (.int .i64 0) → ∀ z', Vars w ((wr.drewN q).setCell ⟨w.heap.size + 1 + 1, 0, none⟩ z') (.slice A m cap) (.func (.func 18) #[] #[]) z' ∧
            ((wr.drewN q).setCell ⟨w.heap.size + 1 + 1, 0, none⟩ z').ownsRow (w.heap.size + 1 + 1 + 1) 3 1 (.slice (some ⟨w.heap.size + 1 + 1 + 1, 0, none⟩) N N) N (xs.map (Value.int .i64) ++ List.replicate (N - xs.length) (.int .i64 0)) ∧
            ((wr.drewN q).setCell ⟨w.heap.size + 1 + 1, 0, none⟩ z').cell? ⟨w.heap.size + 1 + 1 + 1, xs.length, none⟩ = some (.int .i64 0) ∧ ((wr.drewN q).setCell ⟨w.heap.size + 1 + 1, 0, none⟩ z').frozen? ⟨w.heap.size + 1 + 1 + 1, xs.length, none⟩ = false := fun q hc z' =>
          ⟨hv.setU q z', ownsRow_setCell_below (w := wr.drewN q) hown (by show w.heap.size + 1 + 1 < _; omega) _, (World.cell?_setCell_other _ _ _ _ (by simp)).trans hc, (World.frozen?_setCell _ _ _ _).trans hfr⟩
        have H3 := Lib.hid (fun q => hb3 q hcell)
        have HS := Lib.hid hs
        have HG := Lib.hid hg
        have hv0 := Lib.hid hv
        clear hnx hle hcell hfr hb3 hs hg hv hown
        by_cases her : er = 0
        · subst her
          go_wp2_with (go_at_call 40; refine (HNX.out _ hv0.out).mono ?_; rintro e w3 ⟨rfl, q, hw3⟩; obtain ⟨hv3, hown3, hc3, hf3⟩ := H3.out q (.int .i64 ((at_ : Int) + k)); rw [← hw3] at hv3 hown3 hc3 hf3; clear hw3)
          go_roundw
          case rel =>
            refine ⟨xs ++ [n], at_ + k, by simp, by simpa using hv3.far (p := ⟨w.heap.size + 1 + 1 + 1, xs.length, none⟩) (by show _ < w.heap.size + 1 + 1 + 1; omega) _, ?_, HS.out.next hlt HG.out (by have := HM.out; omega)⟩
            rw [← hset.out]
            exact (hown3.stored xs.length _).1
          case measure => simp [intOf]; omega
        · have h5 : ((er : Int) != 0) = true := by simp [her]
          go_wp2_with (go_at_call 40; refine (HNX.out _ hv0.out).mono ?_; rintro e w3 ⟨rfl, q, hw3⟩; obtain ⟨hv3, hown3, hc3, hf3⟩ := H3.out q (.int .i64 ((at_ : Int) + k)); rw [← hw3] at hv3 hown3 hc3 hf3; clear hw3)
          go_ret3
          rw [HS.out.bad hlt HG.out her, comb_err her]
          exact ⟨_, rfl, World.ownsRow_nil _ _ _ _, (hv3.far (p := ⟨w.heap.size + 1 + 1 + 1, xs.length, none⟩) (by show _ < w.heap.size + 1 + 1 + 1; omega) _).bel⟩
      · have hxN : xs.length = N := by omega
        have hend := hs.done hxN
        have hlo := hs.lo
        subst hxN
        have HE := Lib.hid hend
        have HO := Lib.hid hown
        clear hend hs hown
        have hc2 := hv.c2
        go_wp2_with fail
        go_quiet (fail)
        go_wp2_with fail
        go_ret3
        rw [HE.out, comb_start xs u at_ hlo]
        refine ⟨_, rfl, ?_, below_drewN hv.bel _⟩
        have h6 := own_less (base' := w.heap.size) HO.out (by omega)
        have h7 : wr.ownsRow w.heap.size 3 1 (.slice (some ⟨w.heap.size + 1 + 1 + 1, 0, none⟩) xs.length xs.length) (is xs).length (is xs) := by simpa [is] using h6
        exact h7
  · rw [if_pos h1]
    have h5 : ((er : Int) != 0) = true := by simp [h1]
    clear hd hb hm
    go_enter Try.func36, Try.ntmps36
    go_wp2_with (go_at_call 34; refine (HC.out _ (HR.out _ (((Below.refl _ _).alloc (Nat.le_refl _) _).alloc (by simp) _))).mono ?_; rintro e w1 ⟨rfl, k, rfl⟩)
    go_ret3
    exact ⟨_, rfl, World.ownsRow_nil _ _ _ _, (below_drewN (((Below.refl _ _).alloc (Nat.le_refl _) _).alloc (by simp) _) _).alloc (by simp; omega) _⟩
end Go.Proofs.Ytecfhhnmokdkiaa
