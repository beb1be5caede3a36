import Derived.Test.YtecfhhnmokdkiaaL
set_option linter.unusedVariables false
namespace Go.Proofs.Ytecfhhnmokdkiaa
open Go.RowKit

/-- A digest, of 16 bytes that are there. -/
def digD (b : List Nat) : List Nat × Nat × Nat := (b.take 16, 16, 0)
theorem info_dig3 : (Try.prog.info? 51).map (fun i => (i.zero, i.size, i.bytes)) = some (some (.agg #[.int .u8 0, .int .u8 0, .int .u8 0, .int .u8 0, .int .u8 0, .int .u8 0, .int .u8 0, .int .u8 0, .int .u8 0, .int .u8 0, .int .u8 0, .int .u8 0, .int .u8 0, .int .u8 0, .int .u8 0, .int .u8 0]), 16, 16) := by kernel_rfl
theorem wpList_makeD {P : Program} {w : World} {ops : Array Oper} {rest : List Oper} {o : Oper} {a : Act} {Q : Exit → Act → World → Prop} {t e : TypeId} {z : Value} {bytes size n : Nat} {kl kc : IntKind} {L C : Int}
    (h1 : P.underlying t = some (.slice e)) (hi : (P.info? e).map (fun i => (i.zero, i.size, i.bytes)) = some (some z, size, bytes)) (hz : z.cells.size = size) (b2 : bytes * n ≤ 281474976710656) (b3 : n ≤ maxLen)
    (hg : o.guard = none) (l c : Operand) (hop : o.op = Op.makeSlice t l c) (hl : a.eval l = .int kl L) (hc : a.eval c = .int kc C) (hL : L = (n : Int)) (hC : C = (n : Int))
    (hK : ∀ w' xs, w'.ownsRow w.heap.size e size (.slice (some ⟨w.heap.size, 0, none⟩) n n) n xs → Below w.heap.size w w' → w.heap.size < w'.heap.size → wpList P ops Q rest (a.put o.dst (.slice (some ⟨w.heap.size, 0, none⟩) n n)) w') :
    wpList P ops Q (o :: rest) a w := by
  obtain ⟨i0, hi0, hz0, hz1, hz2⟩ := info_parts hi
  refine wpList_make_full w hg l c t hop w.heap.size e i0 z size h1 hi0 hz0 hz1 kl kc L C n hl hc hL hC (by rw [hz2]; exact b2) b3 (Nat.le_refl _) ?_
  intro w' h2 h3
  exact hK w' _ h2 ((Below.refl _ w).grown h3 (Nat.le_refl _) (fun k h => by cases h)) (World.ownsRow.lt h2 w.heap.size rfl).2
theorem Vars.grown {w w2 w3 : World} {x y z z' : Value} (h : Vars w w2 x y z) (hg : w2.grownBy w3 (some (w.heap.size + 1 + 1))) (hc : w3.cell? ⟨w.heap.size + 1 + 1, 0, none⟩ = some z') (hf : w3.frozen? ⟨w.heap.size + 1 + 1, 0, none⟩ = false) : Vars w w3 x y z' := by
  have := h.sz
  refine ⟨hg.cell h.c0 (by simp; omega), hg.cell h.c1 (by simp), hc, hf, h.bel.trans ⟨hg.os, hg.tape, hg.output, hg.size, fun k hk => hg.block k (by omega) (by simp; omega)⟩, by have := hg.size; omega⟩
theorem Vars.farCells {w : World} {x y z : Value} : ∀ (vs : List Value) {o b : Nat} {w2 : World}, Vars w w2 x y z → w.heap.size + 1 + 1 < b → Vars w (w2.setCells b o vs) x y z
  | [], _, _, _, h, _ => h
  | v :: r, o, b, w2, h, hb => Vars.farCells r (h.far (p := ⟨b, o, none⟩) hb v) hb
theorem there_own {w : World} {base g cap n size o k : Nat} {e : TypeId} {xs : List Value} (h : w.ownsRow base e size (.slice (some ⟨g, 0, none⟩) n cap) n xs) (hk : o + k ≤ n * size) : w.there g o k := fun j hj => by
  refine ⟨?_, h.frozenAt _⟩
  rw [h.cellAt (o + j) (by omega), List.getElem?_eq_getElem (by rw [h.1]; omega)]
  rfl
/-- Values set one after the other. -/
def setAll : List Value → Nat → List Value → List Value
  | ys, _, [] => ys
  | ys, o, v :: r => setAll (ys.set o v) (o + 1) r
theorem own_setCells {base g cap n size : Nat} {e : TypeId} : ∀ (vs : List Value) {w : World} {o : Nat} {xs : List Value}, w.ownsRow base e size (.slice (some ⟨g, 0, none⟩) n cap) n xs → o + vs.length ≤ n * size → (w.setCells g o vs).ownsRow base e size (.slice (some ⟨g, 0, none⟩) n cap) n (setAll xs o vs)
  | [], _, _, _, h, _ => h
  | v :: r, w, o, xs, h, hl => own_setCells r (h.stored o v).1 (by simp at hl; omega)
theorem setAll_eq : ∀ (vs : List Value) (ys : List Value) (o : Nat), o + vs.length ≤ ys.length → setAll ys o vs = ys.take o ++ vs ++ ys.drop (o + vs.length)
  | [], ys, o, _ => by simp [setAll]
  | v :: r, ys, o, h => by
    have h : o + (r.length + 1) ≤ ys.length := h
    rw [setAll, setAll_eq r (ys.set o v) (o + 1) (by simp; omega)]
    have e1 : (ys.set o v).take (o + 1) = ys.take o ++ [v] := by
      rw [List.take_succ_eq_append_getElem (by simp; omega), List.getElem_set_self, List.take_set_of_le (Nat.le_refl _)]
    have e2 : (ys.set o v).drop (o + 1 + r.length) = ys.drop (o + (v :: r).length) := by
      rw [List.drop_set_of_lt (by omega)]; congr 1; simp; omega
    rw [e1, e2]; simp
theorem splice_mid (a rest vs : List Value) (h : vs.length ≤ rest.length) : setAll (a ++ rest) a.length vs = a ++ vs ++ rest.drop vs.length := by
  rw [setAll_eq _ _ _ (by simp; omega)]
  simp [List.drop_append]
theorem ds_snoc (xs : List (List Nat)) (d : List Nat) : ds (xs ++ [d]) = ds xs ++ bs d := by simp [ds, bs]

/-- What the decoder of digests leaves. -/
def DRes (w : World) (l : List (List Nat)) (u er : Nat) (en : Ending) (w' : World) : Prop :=
  ∃ v', en = .returned (.tuple #[v', .int .i64 (u : Int), .int .i64 (er : Int)]) ∧ w'.ownsRow w.heap.size 51 16 v' l.length (ds l) ∧ Below w.heap.size w w'

set_option maxHeartbeats 1000000 in
set_option maxRecDepth 100000 in
theorem getListDig_any (m cap : Nat) (A : Option Addr) (zs : List Nat) (w : World) (hm : m = zs.length) (hr : Rd w w.heap.size A (bs zs)) (hb : ∀ d ∈ zs, d < 256) (hcap : m ≤ cap) (hcap2 : cap ≤ maxLen) (hm2 : m ≤ 100000) :
    Calls Try.prog 38 #[.slice A m cap, .int .i64 16, .func (.func 39) #[] #[]] w (DRes w (getL 16 digD zs).1 (getL 16 digD zs).2.1 (getL 16 digD zs).2.2) := by
  obtain ⟨n, u, er, hd⟩ : ∃ n u er, getLen 16 zs = (n, u, er) := ⟨_, _, _, rfl⟩
  rw [getL_eq hd]
  have hcall := fun W (hr : Rd W w.heap.size A (bs zs)) => getLength_call m w.heap.size cap 16 16 A zs W hd hm rfl hr hb hcap hcap2 (by omega) (by omega)
  have HC := Lib.hid hcall
  have her := getLen_er hd
  have hrb : ∀ W, Below w.heap.size w W → Rd W w.heap.size A (bs zs) := fun W hW => hr.below hW
  have HR := Lib.hid hrb
  clear hcall hrb
  by_cases h1 : er = 0
  · subst h1
    obtain ⟨h2, h3, h4, h5⟩ := getLen_ok (by omega) hd
    obtain ⟨N, rfl⟩ := Int.eq_ofNat_of_zero_le h2
    simp only [Int.toNat_natCast] at h4 ⊢
    rw [if_neg (by simp)]
    have h4m : u + N * 16 ≤ m := by omega
    have HM := Lib.hid hm
    have HB := Lib.hid hb
    clear h4 h5 hd her hm hb hr h2
    go_enter Try.func38, Try.ntmps38
    go_wp2_with (first
      | (go_at_call 34; refine (HC.out _ (HR.out _ (((Below.refl _ _).alloc (Nat.le_refl _) _).alloc (by simp) _))).mono ?_; rintro e w1 ⟨rfl, k, rfl⟩)
      | (with_reducible refine wpList_makeD (n := N) Try.underlying24 info_dig3 rfl (by omega) (by simp only [maxLen]; omega) rfl (.tmp 26) (.tmp 26) rfl rfl rfl rfl rfl ?_; intro w2 zc hown2 hbel2 hsz2))
    have hv2 := Vars.made rfl rfl rfl hbel2
    simp at hown2 hsz2
    clear hbel2
    go_loopw [30] (fun i wr => ∃ (xs : List (List Nat)) (at_ : Nat) (rest : List Value), i = .int .i64 (xs.length : Int) ∧ Vars w wr (.slice A m cap) (.func (.func 39) #[] #[]) (.int .i64 (at_ : Int)) ∧
        wr.ownsRow (w.heap.size + 1 + 1 + 1) 51 16 (.slice (some ⟨w.heap.size + 1 + 1 + 1, 0, none⟩) N N) N (ds xs ++ rest) ∧ Sofar digD N u zs xs at_ ∧ at_ ≤ u + 16 * xs.length ∧ (ds xs).length = xs.length * 16)
      (fun i _ => N - (intOf i).toNat)
    case atStart => exact ⟨[], u, _, rfl, hv2, hown2, Sofar.start (by have := HM.out; omega), Nat.le_refl _, rfl⟩
    case round =>
      obtain ⟨xs, at_, rest, rfl, hv, hown, hs, hat1, hdsl⟩ := hrel
      clear hown2 hsz2 hv2
      have hxl := hs.len
      have hat2 := hs.lo
      by_cases hlt : xs.length < N
      · have h0 : zs ≠ [] := fun h => by have := HM.out; subst h; simp at this; omega
        have hat16 : at_ + 16 ≤ m := by omega
        have hg : digD (zs.drop at_) = ((zs.drop at_).take 16, 16, 0) := rfl
        obtain ⟨b, o, hA, hblt, hc⟩ := (HR.out wr hv.bel).at_ (by simpa [bs] using h0)
        subst hA
        have hnx := nextDig_any (w.heap.size + 1) w.heap.size (w.heap.size + 1 + 1) m cap at_ b o zs wr hv.sz HM.out (Nat.lt_of_lt_of_le hblt hv.bel.size) hc hcap hcap2 (by omega) hat16 hv.c1 hv.c0 hv.c2 hv.f2
        have hn := hs.next hlt hg (by have := HM.out; omega)
        have hd16 : ((zs.drop at_).take 16).length = 16 := by have := HM.out; rw [List.length_take, List.length_drop]; omega
        generalize (zs.drop at_).take 16 = d at hnx hn hd16
        have h3 : ∀ w3, wr.grownBy w3 (some (w.heap.size + 1 + 1)) → w3.cell? ⟨w.heap.size + 1 + 1, 0, none⟩ = some (.int .i64 ((at_ : Int) + 16)) → w3.frozen? ⟨w.heap.size + 1 + 1, 0, none⟩ = false →
            Vars w w3 (.slice (some ⟨b, o, none⟩) m cap) (.func (.func 39) #[] #[]) (.int .i64 ((at_ : Int) + 16)) ∧
            w3.ownsRow (w.heap.size + 1 + 1 + 1) 51 16 (.slice (some ⟨w.heap.size + 1 + 1 + 1, 0, none⟩) N N) N (ds xs ++ rest) := fun w3 g1 g2 g3 =>
          ⟨hv.grown g1 g2 g3, World.ownsRow.kept hown g1 (.inr (by simp [Value.ownBlock]))⟩
        have H3 := Lib.hid h3
        have HN := Lib.hid hn
        have HD16 := Lib.hid hd16
        have HDSL := Lib.hid hdsl
        have HNX := Lib.hid hnx
        have hxi : (xs.length : Int) < (N : Int) := by omega
        clear hc hs hg hn hv hown h3 hd16 hdsl hnx
        go_wp2_with (first
          | (go_at_call 42; refine HNX.out.mono ?_; rintro e w3 ⟨rfl, g1, g2, g3⟩; obtain ⟨hv3, hown3⟩ := H3.out w3 g1 g2 g3; clear g1 g2 g3)
          | (with_reducible refine wpList_store_mid rfl _ (.tmp 40) (.tmp 38) rfl (w.heap.size + 1 + 1 + 1) (xs.length * 16) (bs d).toArray rfl rfl (there_own hown3 (by simp [bs_len, HD16.out]; omega)) (by rw [List.size_toArray, bs_len, HD16.out]; exact info_dig) (all_oneCell_toArray (bs_cell d)) ?_))
        go_roundw
        case rel =>
          have hstep := own_setCells (bs d) hown3 (o := xs.length * 16) (by rw [bs_len, HD16.out]; omega)
          have hr := splice_mid (ds xs) rest (bs d) (by have := hown3.1; rw [List.length_append, HDSL.out] at this; rw [bs_len, HD16.out]; omega)
          rw [HDSL.out] at hr
          rw [hr] at hstep
          refine ⟨xs ++ [d], at_ + 16, rest.drop (bs d).length, by simp, by simpa using hv3.farCells (bs d) (o := xs.length * 16) (b := w.heap.size + 1 + 1 + 1) (by omega), ?_, HN.out, by simp; omega, ?_⟩
          · rw [ds_snoc]; simpa using hstep
          · rw [ds_snoc, List.length_append, HDSL.out, bs_len, HD16.out]; simp; omega
        case measure => simp [intOf]; omega
      · have hxN : xs.length = N := by omega
        have hend := hs.done hxN
        subst hxN
        have hrest : rest = [] := by
          have := hown.1
          rw [List.length_append, hdsl] at this
          exact List.eq_nil_of_length_eq_zero (by omega)
        subst hrest
        rw [List.append_nil] at hown
        have HE := Lib.hid hend
        have HO := Lib.hid hown
        clear hend hs hown hdsl
        have hc2 := hv.c2
        go_wp2_with fail
        go_quiet (fail)
        go_wp2_with fail
        go_ret3
        rw [HE.out, comb_start xs u at_ hat2]
        exact ⟨_, rfl, own_less (base' := w.heap.size) HO.out (by omega), below_drewN hv.bel _⟩
  · rw [if_pos h1]
    have h5 : ((er : Int) != 0) = true := by simp [h1]
    clear hd hb hm
    go_enter Try.func38, Try.ntmps38
    go_wp2_with (go_at_call 34; refine (HC.out _ (HR.out _ (((Below.refl _ _).alloc (Nat.le_refl _) _).alloc (by simp) _))).mono ?_; rintro e w1 ⟨rfl, k, rfl⟩)
    go_ret3
    exact ⟨_, rfl, World.ownsRow_nil _ _ _ _, (below_drewN (((Below.refl _ _).alloc (Nat.le_refl _) _).alloc (by simp) _) _).alloc (by simp; omega) _⟩
end Go.Proofs.Ytecfhhnmokdkiaa
