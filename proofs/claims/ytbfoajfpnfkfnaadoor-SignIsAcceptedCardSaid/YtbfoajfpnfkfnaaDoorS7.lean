import Derived.Test.YtbfoajfpnfkfnaaDoorS4
import Derived.Test.YtbfoajfpnfkfnaaDoorH14
import Derived.Test.YtbfoajfpnfkfnaaDoorH13
import Derived.Test.YtbfoajfpnfkfnaaDoorS3
import Derived.Test.YtbfoajfpnfkfnaaDoorSW
import Derived.Deep.RegionHeld3
import Derived.Deep.RegionWith
/-
  Plain facts, no program: one-time keys and their tree, as functions on lists of bytes.
-/
set_option linter.unusedVariables false
namespace Go.Proofs.YtbfoajfpnfkfnaaDoor

/-- The bytes of a list of numbers. -/
def ints (l : List Nat) : List Nat := encL enc (l.map fun (x : Nat) => (x : Int))
/-- What is hashed, and the digest. -/
def ofL (tag : Nat) (ps : List (List Nat)) : List Nat := tag :: ps.flatMap fun p => enc (p.length : Int) ++ p
def ofd (tag : Nat) (ps : List (List Nat)) : List Nat := (sha (ofL tag ps)).take 16
/-- The value of a chain at height 0; one step; steps. -/
def st0 (sd : List Nat) (i c : Nat) : List Nat := (mac sd ([99, 104, 97, 105, 110] ++ ints [i, c])).take 16
def nxt (i c t : Nat) (v : List Nat) : List Nat := ofd 11 [ints [i, c, t], v]
def up (i c : Nat) : Nat → Nat → List Nat → List Nat
  | 0, _, v => v
  | n + 1, t, v => up i c n (t + 1) (nxt i c t v)
def startL (sd : List Nat) (i : Nat) : List Nat := (List.range 68).flatMap (st0 sd i)
def cut16 (V : List Nat) (c : Nat) : List Nat := (V.drop (16 * c)).take 16
/-- The value of a chain behind a climb. -/
def upAt (i : Nat) (V F T : List Nat) (c : Nat) : List Nat := up i c (T.getD c 0 - F.getD c 0) (F.getD c 0) (cut16 V c)
def climbL (i : Nat) (V F T : List Nat) : List Nat := (List.range 68).flatMap (upAt i V F T)
def leafL (V : List Nat) : List Nat := ofd 1 [ofd 3 [V]]
def parL (a b : List Nat) : List Nat := ofd 2 [a, b]
def zero68 : List Nat := List.replicate 68 0
def top68 : List Nat := List.replicate 68 3
def nodeL (sd : List Nat) : Nat → Nat → List Nat
  | 0, k => leafL (climbL k (startL sd k) zero68 top68)
  | l + 1, k => parL (nodeL sd l (2 * k)) (nodeL sd l (2 * k + 1))
def sib (i l : Nat) : Nat := (i / 2 ^ l) ^^^ 1
def besL (sd : List Nat) (h i : Nat) : List (List Nat) := (List.range h).map fun l => nodeL sd l (sib i l)
def msgL (pub : List Nat) (i : Nat) (msg : List Nat) : List Nat := ofd 4 [pub, enc (i : Int), msg]
def sigL (sd : List Nat) (h i : Nat) (msg : List Nat) : List Nat :=
  enc (i : Int) ++ climbL i (startL sd i) zero68 (digL (msgL (nodeL sd h 0) i msg)) ++ (besL sd h i).flatten
def overL : List Nat → Nat → List (List Nat) → List Nat
  | v, _, [] => v
  | v, i, o :: os => overL (if i % 2 = 0 then parL v o else parL o v) (i / 2) os

theorem ofd_len (tag : Nat) (ps : List (List Nat)) : (ofd tag ps).length = 16 := by unfold ofd; rw [List.length_take, sha_len]; rfl
theorem ofd_all (tag : Nat) (ps : List (List Nat)) : AllB (ofd tag ps) := (sha_all _).take 16
theorem st0_len (sd : List Nat) (i c : Nat) : (st0 sd i c).length = 16 := by unfold st0 mac; rw [List.length_take, sha_len]; rfl
theorem st0_all (sd : List Nat) (i c : Nat) : AllB (st0 sd i c) := (sha_all _).take 16
theorem up_len (i c : Nat) : ∀ (n t : Nat) (v : List Nat), v.length = 16 → (up i c n t v).length = 16
  | 0, _, _, h => h
  | n + 1, t, v, _ => up_len i c n (t + 1) _ (ofd_len _ _)
theorem up_all (i c : Nat) : ∀ (n t : Nat) (v : List Nat), AllB v → AllB (up i c n t v)
  | 0, _, _, h => h
  | n + 1, t, v, _ => up_all i c n (t + 1) _ (ofd_all _ _)
theorem up_succ (i c : Nat) : ∀ (n t : Nat) (v : List Nat), up i c (n + 1) t v = nxt i c (t + n) (up i c n t v)
  | 0, _, _ => rfl
  | n + 1, t, v => by
    show up i c (n + 1) (t + 1) (nxt i c t v) = _
    rw [up_succ i c n (t + 1) _, show t + 1 + n = t + (n + 1) by omega]; rfl
theorem up_add (i c : Nat) : ∀ (n m t : Nat) (v : List Nat), up i c (n + m) t v = up i c m (t + n) (up i c n t v)
  | 0, m, t, v => by rw [Nat.zero_add]; rfl
  | n + 1, m, t, v => by
    rw [show n + 1 + m = (n + m) + 1 by omega]
    show up i c (n + m) (t + 1) (nxt i c t v) = _
    rw [up_add i c n m (t + 1) _, show t + 1 + n = t + (n + 1) by omega]; rfl
theorem flat_len {f : Nat → List Nat} (h : ∀ c, (f c).length = 16) : ∀ n, ((List.range n).flatMap f).length = 16 * n
  | 0 => rfl
  | n + 1 => by rw [List.range_succ, List.flatMap_append, List.length_append, flat_len h n, List.flatMap_singleton, h]; omega
theorem flat_all {f : Nat → List Nat} (h : ∀ c, AllB (f c)) (n : Nat) : AllB ((List.range n).flatMap f) := by
  intro d hd
  obtain ⟨c, _, hc⟩ := List.mem_flatMap.1 hd
  exact h c d hc
theorem flat_succ (f : Nat → List Nat) (n : Nat) : (List.range (n + 1)).flatMap f = (List.range n).flatMap f ++ f n := by rw [List.range_succ, List.flatMap_append, List.flatMap_singleton]
theorem cut_flat {f : Nat → List Nat} (h : ∀ c, (f c).length = 16) (n c : Nat) (hc : c < n) : cut16 ((List.range n).flatMap f) c = f c := by
  induction n with
  | zero => omega
  | succ n ih =>
    rw [flat_succ]
    unfold cut16 at ih ⊢
    have hl := flat_len h n
    by_cases hcn : c < n
    · rw [List.drop_append_of_le_length (by omega), List.take_append_of_le_length (by rw [List.length_drop]; omega)]
      exact ih hcn
    · have : c = n := by omega
      subst this
      rw [List.drop_append_of_le_length (by omega), List.drop_of_length_le (by omega), List.nil_append, List.take_of_length_le (by rw [h]; exact Nat.le_refl _)]
theorem cut_len {V : List Nat} {c : Nat} (h : 16 * (c + 1) ≤ V.length) : (cut16 V c).length = 16 := by unfold cut16; rw [List.length_take, List.length_drop]; omega
theorem cut_all {V : List Nat} (h : AllB V) (c : Nat) : AllB (cut16 V c) := fun d hd => h d (List.mem_of_mem_drop (List.mem_of_mem_take hd))
theorem startL_len (sd : List Nat) (i : Nat) : (startL sd i).length = 1088 := flat_len (st0_len sd i) 68
theorem startL_all (sd : List Nat) (i : Nat) : AllB (startL sd i) := flat_all (st0_all sd i) 68
theorem upAt_all (i : Nat) {V : List Nat} (F T : List Nat) (h : AllB V) (c : Nat) : AllB (upAt i V F T c) := up_all _ _ _ _ _ (cut_all h c)
theorem upAt_len (i : Nat) {V : List Nat} (F T : List Nat) {c : Nat} (hV : V.length = 1088) (hc : c < 68) : (upAt i V F T c).length = 16 := up_len _ _ _ _ _ (cut_len (by omega))
/-- The first values of a climb, one after the other. -/
def climbK (i : Nat) (V F T : List Nat) (n : Nat) : List Nat := (List.range n).flatMap (upAt i V F T)
theorem climbK_len (i : Nat) {V : List Nat} (F T : List Nat) (hV : V.length = 1088) : ∀ n, n ≤ 68 → (climbK i V F T n).length = 16 * n
  | 0, _ => rfl
  | n + 1, hn => by
    unfold climbK
    rw [flat_succ, List.length_append]
    have := climbK_len i F T hV n (by omega)
    unfold climbK at this
    rw [this, upAt_len i F T hV (by omega)]; omega
theorem climbL_len (i : Nat) {V : List Nat} (F T : List Nat) (hV : V.length = 1088) : (climbL i V F T).length = 1088 := climbK_len i F T hV 68 (Nat.le_refl _)
theorem climbL_all (i : Nat) {V : List Nat} (F T : List Nat) (h : AllB V) : AllB (climbL i V F T) := flat_all (fun c => upAt_all i F T h c) 68
theorem cut_climb (i : Nat) {V : List Nat} (F T : List Nat) (hV : V.length = 1088) : ∀ n c, c < n → n ≤ 68 → cut16 (climbK i V F T n) c = upAt i V F T c
  | 0, c, h, _ => by omega
  | n + 1, c, h, hn => by
    have hl := climbK_len i F T hV n (by omega)
    have hu := upAt_len i F T (c := n) hV (by omega)
    unfold climbK
    rw [flat_succ]
    by_cases hcn : c < n
    · have ih := cut_climb i F T hV n c hcn (by omega)
      unfold cut16 at ih ⊢
      unfold climbK at ih hl
      rw [List.drop_append_of_le_length (by omega), List.take_append_of_le_length (by rw [List.length_drop]; omega)]
      exact ih
    · have : c = n := by omega
      subst this
      unfold cut16
      unfold climbK at hl
      rw [List.drop_append_of_le_length (by omega), List.drop_of_length_le (by omega), List.nil_append, List.take_of_length_le (by omega)]
theorem flatMap_same {f g : Nat → List Nat} : ∀ n, (∀ c, c < n → f c = g c) → (List.range n).flatMap f = (List.range n).flatMap g
  | 0, _ => rfl
  | n + 1, h => by rw [flat_succ, flat_succ, flatMap_same n (fun c hc => h c (by omega)), h n (by omega)]
/-- To the top by way of any heights. -/
theorem climb_top (i : Nat) {V D : List Nat} (hV : V.length = 1088) (hD : ∀ c, D.getD c 0 ≤ 3) : climbL i (climbL i V zero68 D) D top68 = climbL i V zero68 top68 := by
  refine flatMap_same 68 fun c hc => ?_
  have h0 : zero68.getD c 0 = 0 := by unfold zero68; rw [List.getD_eq_getElem?_getD, List.getElem?_replicate, if_pos hc]; rfl
  have h3 : top68.getD c 0 = 3 := by unfold top68; rw [List.getD_eq_getElem?_getD, List.getElem?_replicate, if_pos hc]; rfl
  have hd := hD c
  have hcc : cut16 (climbL i V zero68 D) c = upAt i V zero68 D c := cut_climb i zero68 D hV 68 c hc (Nat.le_refl _)
  unfold upAt at hcc ⊢
  rw [hcc, h0, h3, Nat.sub_zero, Nat.sub_zero]
  have := up_add i c (D.getD c 0) (3 - D.getD c 0) 0 (cut16 V c)
  rw [show D.getD c 0 + (3 - D.getD c 0) = 3 by omega, Nat.zero_add] at this
  exact this.symm
theorem nodeL_len (sd : List Nat) (l k : Nat) : (nodeL sd l k).length = 16 := by cases l <;> exact ofd_len _ _
theorem nodeL_all (sd : List Nat) (l k : Nat) : AllB (nodeL sd l k) := by cases l <;> exact ofd_all _ _
theorem overL_len : ∀ (os : List (List Nat)) (v : List Nat) (i : Nat), v.length = 16 → (overL v i os).length = 16
  | [], v, i, h => h
  | o :: os, v, i, h => overL_len os _ _ (by split <;> exact ofd_len _ _)
theorem overL_all : ∀ (os : List (List Nat)) (v : List Nat) (i : Nat), AllB v → AllB (overL v i os)
  | [], v, i, h => h
  | o :: os, v, i, h => overL_all os _ _ (by split <;> exact ofd_all _ _)
theorem xor_one (k : Nat) : k ^^^ 1 = if k % 2 = 0 then k + 1 else k - 1 := by
  have h1 : (k ^^^ 1) % 2 = (k % 2) ^^^ 1 := by
    have := @Nat.xor_mod_two_pow k 1 1
    simpa using this
  have h3 : k % 2 = 0 ∨ k % 2 = 1 := by omega
  have h4 : (0 : Nat) ^^^ 1 = 1 := rfl
  have h5 : (1 : Nat) ^^^ 1 = 0 := rfl
  have h2 : (k ^^^ 1) / 2 = k / 2 := by rw [Nat.xor_div_two]; simp
  rcases h3 with h | h
  · rw [h, h4] at h1; rw [if_pos h]; omega
  · rw [h, h5] at h1; rw [if_neg (by omega)]; omega
/-- The way from a leaf to the root. -/
theorem over_node (sd : List Nat) (i : Nat) : ∀ m l, overL (nodeL sd l (i / 2 ^ l)) (i / 2 ^ l) ((List.range' l m).map fun l => nodeL sd l (sib i l)) = nodeL sd (l + m) (i / 2 ^ (l + m))
  | 0, l => rfl
  | m + 1, l => by
    rw [List.range'_succ, List.map_cons]
    show overL (if i / 2 ^ l % 2 = 0 then parL (nodeL sd l (i / 2 ^ l)) (nodeL sd l (sib i l)) else parL (nodeL sd l (sib i l)) (nodeL sd l (i / 2 ^ l))) (i / 2 ^ l / 2) _ = _
    have hd : i / 2 ^ l / 2 = i / 2 ^ (l + 1) := by rw [Nat.div_div_eq_div_mul, Nat.pow_succ]
    have hp : (if i / 2 ^ l % 2 = 0 then parL (nodeL sd l (i / 2 ^ l)) (nodeL sd l (sib i l)) else parL (nodeL sd l (sib i l)) (nodeL sd l (i / 2 ^ l))) = nodeL sd (l + 1) (i / 2 ^ (l + 1)) := by
      show _ = parL (nodeL sd l (2 * (i / 2 ^ (l + 1)))) (nodeL sd l (2 * (i / 2 ^ (l + 1)) + 1))
      rw [← hd]
      unfold sib
      rw [xor_one]
      generalize i / 2 ^ l = k
      by_cases hk : k % 2 = 0
      · rw [if_pos hk, if_pos hk, show 2 * (k / 2) = k by omega]
      · rw [if_neg hk, if_neg hk, show 2 * (k / 2) = k - 1 by omega, show k - 1 + 1 = k by omega]
    rw [hp, hd, over_node sd i m (l + 1), show l + 1 + m = l + (m + 1) by omega]
theorem over_root (sd : List Nat) (h i : Nat) (hi : i < 2 ^ h) : overL (nodeL sd 0 i) i (besL sd h i) = nodeL sd h 0 := by
  have := over_node sd i h 0
  rw [Nat.pow_zero, Nat.div_one, Nat.zero_add, Nat.div_eq_of_lt hi] at this
  unfold besL
  rw [List.range_eq_range']
  exact this
theorem besL_len (sd : List Nat) (h i : Nat) : (besL sd h i).length = h := by simp [besL]
theorem flatten_len : ∀ (L : List (List Nat)), (∀ x ∈ L, x.length = 16) → L.flatten.length = 16 * L.length
  | [], _ => rfl
  | a :: L, h => by rw [List.flatten_cons, List.length_append, h a (List.mem_cons_self ..), flatten_len L (fun x hx => h x (List.mem_cons_of_mem _ hx)), List.length_cons]; omega
theorem besL_16 (sd : List Nat) (h i : Nat) : ∀ x ∈ besL sd h i, x.length = 16 := by
  intro x hx
  obtain ⟨l, _, rfl⟩ := List.mem_map.1 hx
  exact nodeL_len _ _ _
theorem besL_all (sd : List Nat) (h i : Nat) : ∀ x ∈ besL sd h i, AllB x := by
  intro x hx
  obtain ⟨l, _, rfl⟩ := List.mem_map.1 hx
  exact nodeL_all _ _ _
theorem msgL_len (pub : List Nat) (i : Nat) (msg : List Nat) : (msgL pub i msg).length = 16 := ofd_len _ _
theorem msgL_all (pub : List Nat) (i : Nat) (msg : List Nat) : AllB (msgL pub i msg) := ofd_all _ _
theorem digL_le (d : List Nat) (c : Nat) : (digL d).getD c 0 ≤ 3 := by
  have : ∀ x ∈ digL d, x < 4 := by
    intro x hx
    unfold digL at hx
    rcases List.mem_append.1 hx with hx | hx
    · exact dg64_lt d x hx
    · exact dig4_lt _ x hx
  rw [List.getD_eq_getElem?_getD]
  by_cases hc : c < (digL d).length
  · rw [List.getElem?_eq_getElem hc]; have := this _ (List.getElem_mem hc); simp; omega
  · rw [List.getElem?_eq_none (by omega)]; simp
/-- Sixteen at a time. -/
def cuts : Nat → List Nat → List (List Nat)
  | 0, _ => []
  | n + 1, s => s.take 16 :: cuts n (s.drop 16)
theorem cuts_flatten : ∀ (L : List (List Nat)), (∀ x ∈ L, x.length = 16) → cuts L.length L.flatten = L
  | [], _ => rfl
  | a :: L, h => by
    have ha := h a (List.mem_cons_self ..)
    show (a ++ L.flatten).take 16 :: cuts L.length ((a ++ L.flatten).drop 16) = a :: L
    rw [List.take_append_of_le_length (by omega), List.take_of_length_le (by omega), List.drop_append_of_le_length (by omega), List.drop_of_length_le (by omega), List.nil_append, cuts_flatten L (fun x hx => h x (List.mem_cons_of_mem _ hx))]

theorem mkS_app (a b : List Nat) : mkS a ++ mkS b = mkS (a ++ b) := by
  unfold mkS
  apply ByteArray.ext
  simp
theorem ofIn_mkS (tag : Nat) (ht : tag < 256) : ∀ (ps : List (List Nat)), (∀ p ∈ ps, AllB p) → ofIn (tag : Int) (ps.map mkS) = ofL tag ps := by
  intro ps h
  have e : ((tag : Int) % 256).toNat = tag := by omega
  unfold ofIn ofL
  rw [e, List.flatMap_map]
  congr 1
  induction ps with
  | nil => rfl
  | cons p ps ih =>
    rw [List.flatMap_cons, List.flatMap_cons, ih (fun q hq => h q (List.mem_cons_of_mem _ hq))]
    unfold encS
    rw [mkS_size, sb_mkS p (h p (List.mem_cons_self ..))]
end Go.Proofs.YtbfoajfpnfkfnaaDoor
set_option linter.unusedVariables false
namespace Go.Proofs.YtbfoajfpnfkfnaaDoor
open Go.RowKit

theorem lit_rd (W : World) (xs : List Value) (t : TypeId) (fr : Nat × Nat) : Rd (W.alloc (.cells xs.toArray t fr)) (W.alloc (.cells xs.toArray t fr)).heap.size (some ⟨W.heap.size, 0, none⟩) xs := Rd.row (heap_alloc_new W _)
/-- A call of hash.Of over a slice that was just made. -/
theorem of_new (tag : Nat) (ht : tag < 256) (ps : List (List Nat)) (n : Nat) (hn : n = ps.length) (hn2 : n ≤ 10) (hb : ∀ p ∈ ps, AllB p) (hl : ∀ p ∈ ps, p.length ≤ 100000) (W : World) (hk : Kc W) :
    Calls Tryd.prog 24 #[.int .i64 (tag : Int), .slice (some ⟨W.heap.size, 0, none⟩) n n] (W.alloc (.cells (ss (ps.map mkS)).toArray 9)) fun e w' => e = .returned (.agg (bs (ofd tag ps)).toArray) ∧ Below W.heap.size W w' := by
  have h := Of_any (tag : Int) (some ⟨W.heap.size, 0, none⟩) n n (ps.map mkS) (W.alloc (.cells (ss (ps.map mkS)).toArray 9)) (by unfold InR; omega) (by simpa using hn) (lit_rd W _ _ _)
    (by intro s hs; obtain ⟨p, hp, rfl⟩ := List.mem_map.1 hs; rw [mkS_size]; exact hl p hp) (by omega) (hk.later (new_later W _))
  rw [ofIn_mkS tag ht ps hb] at h
  exact h.mono fun e w' ⟨he, hb⟩ => ⟨he, later (new_later W _) hb⟩
theorem of1 (tag : Nat) (ht : tag < 256) (a : List Nat) (ha : AllB a) (la : a.length ≤ 100000) (W : World) (hk : Kc W) :
    Calls Tryd.prog 24 #[.int .i64 (tag : Int), .slice (some ⟨W.heap.size, 0, none⟩) 1 1] (W.alloc (.cells #[.string (mkS a)] 9)) fun e w' => e = .returned (.agg (bs (ofd tag [a])).toArray) ∧ Below W.heap.size W w' :=
  of_new tag ht [a] 1 rfl (by decide) (by simpa using ha) (by simpa using la) W hk
theorem of2 (tag : Nat) (ht : tag < 256) (a b : List Nat) (ha : AllB a) (la : a.length ≤ 100000) (hb : AllB b) (lb : b.length ≤ 100000) (W : World) (hk : Kc W) :
    Calls Tryd.prog 24 #[.int .i64 (tag : Int), .slice (some ⟨W.heap.size, 0, none⟩) 2 2] (W.alloc (.cells #[.string (mkS a), .string (mkS b)] 9)) fun e w' => e = .returned (.agg (bs (ofd tag [a, b])).toArray) ∧ Below W.heap.size W w' :=
  of_new tag ht [a, b] 2 rfl (by decide) (by intro p hp; simp at hp; rcases hp with rfl | rfl <;> assumption) (by intro p hp; simp at hp; rcases hp with rfl | rfl <;> assumption) W hk
theorem of3 (tag : Nat) (ht : tag < 256) (a b c : List Nat) (ha : AllB a) (la : a.length ≤ 100000) (hb : AllB b) (lb : b.length ≤ 100000) (hc : AllB c) (lc : c.length ≤ 100000) (W : World) (hk : Kc W) :
    Calls Tryd.prog 24 #[.int .i64 (tag : Int), .slice (some ⟨W.heap.size, 0, none⟩) 3 3] (W.alloc (.cells #[.string (mkS a), .string (mkS b), .string (mkS c)] 9)) fun e w' => e = .returned (.agg (bs (ofd tag [a, b, c])).toArray) ∧ Below W.heap.size W w' :=
  of_new tag ht [a, b, c] 3 rfl (by decide) (by intro p hp; simp at hp; rcases hp with rfl | rfl | rfl <;> assumption) (by intro p hp; simp at hp; rcases hp with rfl | rfl | rfl <;> assumption) W hk

set_option maxHeartbeats 1000000 in
set_option maxRecDepth 100000 in
theorem leaf_aux (V X Y : List Nat) (w : World) (HXL : Hid (X.length = 16)) (HYL : Hid (Y.length = 16))
    (H1 : Hid (∀ W, Below w.heap.size w W → Calls Tryd.prog 24 #[.int .i64 3, .slice (some ⟨W.heap.size, 0, none⟩) 1 1] (W.alloc (.cells #[.string (mkS V)] 9)) fun e w' => e = .returned (.agg (bs X).toArray) ∧ Below W.heap.size W w'))
    (H2 : Hid (∀ W, Below w.heap.size w W → Calls Tryd.prog 24 #[.int .i64 1, .slice (some ⟨W.heap.size, 0, none⟩) 1 1] (W.alloc (.cells #[.string (mkS X)] 9)) fun e w' => e = .returned (.agg (bs Y).toArray) ∧ Below W.heap.size W w')) :
    Calls Tryd.prog 59 #[.string (mkS V)] w fun e w' => e = .returned (.agg (bs Y).toArray) ∧ Below w.heap.size w w' := by
  have HT : Hid (∀ W, Calls Tryd.prog 63 #[.agg (bs X).toArray] W fun e w' => e = .returned (.string (mkS X)) ∧ Below W.heap.size W w') := Lib.hid fun W => stext_any X HXL.out W
  have a1 := Arr.new' w 44 #[.int .u8 0, .int .u8 0, .int .u8 0, .int .u8 0, .int .u8 0, .int .u8 0, .int .u8 0, .int .u8 0, .int .u8 0, .int .u8 0, .int .u8 0, .int .u8 0, .int .u8 0, .int .u8 0, .int .u8 0, .int .u8 0] 16 (bs (List.replicate 16 0)) rfl (by simp [bs]) (by decide)
  have HYB : Hid ((bs Y).length = 16) := Lib.hid (by rw [bs_len, HYL.out])
  have HI : Hid ((Tryd.prog.info? 44).map (·.size) = some (bs Y).length) := Lib.hid (by rw [HYB.out]; exact info_dig)
  go_enter Tryd.func59, Tryd.ntmps59
  go_upto_region 1 with fail
  have V0 := new_later w (.cells #[.int .u8 0, .int .u8 0, .int .u8 0, .int .u8 0, .int .u8 0, .int .u8 0, .int .u8 0, .int .u8 0, .int .u8 0, .int .u8 0, .int .u8 0, .int .u8 0, .int .u8 0, .int .u8 0, .int .u8 0, .int .u8 0] 44)
  generalize hW : w.alloc (.cells #[.int .u8 0, .int .u8 0, .int .u8 0, .int .u8 0, .int .u8 0, .int .u8 0, .int .u8 0, .int .u8 0, .int .u8 0, .int .u8 0, .int .u8 0, .int .u8 0, .int .u8 0, .int .u8 0, .int .u8 0, .int .u8 0] 44) = wa at a1 V0 ⊢
  clear hW
  go_wp2_with (first
    | (go_at_call 24; with_reducible refine (H1.out _ V0).mono ?_; rintro e w1 ⟨rfl, hb1⟩; have V1 := later V0 hb1; have A1 := a1.later hb1; clear H1 hb1)
    | (go_at_call 63; with_reducible refine (HT.out _).mono ?_; rintro e w2 ⟨rfl, hb2⟩; have V2 := later V1 hb2; have A2 := A1.later hb2; clear hb2)
    | (go_at_call 24; with_reducible refine (H2.out _ V2).mono ?_; rintro e w3 ⟨rfl, hb3⟩; have V3 := later V2 hb3; have A3 := A2.later hb3; clear H2 hb3)
    | (refine wpList_store_arr rfl _ (.tmp 2) (.tmp 8) rfl w.heap.size 0 16 44 _ (bs Y) _ rfl rfl rfl A3 (by rw [HYB.out]; omega) HI.out (bs_cell Y) ?_; intro w9 f9 o9; have V9 := V3.trans o9.bel; rw [setAll_all _ _ (by rw [HYB.out, bs_len]; rfl)] at f9))
  exact bodyPost_ret (results_one rfl _ _ w.heap.size (bs Y) _ rfl f9.range Tryd.underlying44 rfl HI.out) rfl ⟨rfl, V9⟩
theorem leaf_any (V : List Nat) (hV : AllB V) (hl : V.length ≤ 100000) (w : World) (hk : Kc w) :
    Calls Tryd.prog 59 #[.string (mkS V)] w fun e w' => e = .returned (.agg (bs (leafL V)).toArray) ∧ Below w.heap.size w w' :=
  leaf_aux V (ofd 3 [V]) (leafL V) w (Lib.hid (ofd_len _ _)) (Lib.hid (ofd_len _ _)) (Lib.hid fun W hW => of1 3 (by decide) V hV hl W (hk.later hW))
    (Lib.hid fun W hW => of1 1 (by decide) (ofd 3 [V]) (ofd_all _ _) (by rw [ofd_len]; decide) W (hk.later hW))

set_option maxHeartbeats 1000000 in
set_option maxRecDepth 100000 in
theorem digest_aux (P I M D : List Nat) (i : Int) (hi : InR i) (w : World) (HPL : Hid (P.length = 16)) (HI : Hid (enc i = I)) (HIB : Hid (AllB I)) (HDL : Hid (D.length = 16))
    (H1 : Hid (∀ W, Below w.heap.size w W → Calls Tryd.prog 24 #[.int .i64 4, .slice (some ⟨W.heap.size, 0, none⟩) 3 3] (W.alloc (.cells #[.string (mkS P), .string (mkS I), .string (mkS M)] 9)) fun e w' => e = .returned (.agg (bs D).toArray) ∧ Below W.heap.size W w')) :
    Calls Tryd.prog 47 #[.agg (bs P).toArray, .int .i64 i, .string (mkS M)] w fun e w' => e = .returned (.agg (bs D).toArray) ∧ Below w.heap.size w w' := by
  have HT : Hid (∀ W, Calls Tryd.prog 63 #[.agg (bs P).toArray] W fun e w' => e = .returned (.string (mkS P)) ∧ Below W.heap.size W w') := Lib.hid fun W => stext_any P HPL.out W
  have HN : Hid (∀ W, Calls Tryd.prog 54 #[.int .i64 i] W (RowRes I W)) := Lib.hid fun W => by rw [← HI.out]; exact RowRes.of (Int_any i W hi.1 hi.2)
  have hbw := duo_new w 44 44 (bs P).toArray #[.int .u8 0, .int .u8 0, .int .u8 0, .int .u8 0, .int .u8 0, .int .u8 0, .int .u8 0, .int .u8 0, .int .u8 0, .int .u8 0, .int .u8 0, .int .u8 0, .int .u8 0, .int .u8 0, .int .u8 0, .int .u8 0] (bs P) (bs (List.replicate 16 0)) 16 16 rfl rfl (by rw [bs_len, HPL.out]) (by simp [bs]) (by decide) (by decide)
  have HPB : Hid ((Tryd.prog.info? 44).map (·.size) = some (bs P).length) := Lib.hid (by rw [bs_len, HPL.out]; exact info_dig)
  have HDB : Hid ((bs D).length = 16) := Lib.hid (by rw [bs_len, HDL.out])
  have HI2 : Hid ((Tryd.prog.info? 44).map (·.size) = some (bs D).length) := Lib.hid (by rw [HDB.out]; exact info_dig)
  clear hi
  go_enter Tryd.func47, Tryd.ntmps47
  go_upto_region 1 with fail
  generalize hW : (w.alloc (.cells (bs P).toArray 44)).alloc (.cells #[.int .u8 0, .int .u8 0, .int .u8 0, .int .u8 0, .int .u8 0, .int .u8 0, .int .u8 0, .int .u8 0, .int .u8 0, .int .u8 0, .int .u8 0, .int .u8 0, .int .u8 0, .int .u8 0, .int .u8 0, .int .u8 0] 44) = wa at hbw ⊢
  obtain ⟨a1, a2, V0⟩ := hbw
  clear hW
  have R1 := Lib.hid a1.range
  go_wp2_with (first
    | (refine wpList_load_mid rfl _ (.tmp 3) rfl w.heap.size 0 rfl (bs P) _ R1.out Tryd.underlying44 rfl HPB.out ?_)
    | (go_at_call 63; with_reducible refine (HT.out _).mono ?_; rintro e w1 ⟨rfl, hb1⟩; have V1 := later V0 hb1; have A1 := a2.later hb1; clear hb1)
    | (go_at_call 54; ((with_reducible refine (HN.out _).mono ?_); rintro e w2 ⟨A, c, rfl, hr2, hc2, hc3, hb2⟩; have V2 := later V1 hb2; have A2 := A1.later hb2; have hcv := run_conv _ I.length c A I w2 rfl hr2; clear hb2 hr2))
    | (go_at_call 24; with_reducible refine (H1.out _ V2).mono ?_; rintro e w3 ⟨rfl, hb3⟩; have V3 := later V2 hb3; have A3 := A2.later hb3; clear H1 hb3)
    | (refine wpList_store_arr rfl _ (.tmp 6) (.tmp 14) rfl (w.heap.size + 1) 0 16 44 _ (bs D) _ rfl rfl rfl A3 (by rw [HDB.out]; omega) HI2.out (bs_cell D) ?_; intro w9 f9 o9; have V9 := V3.trans (o9.bel.mono (by omega)); rw [setAll_all _ _ (by rw [HDB.out, bs_len]; rfl)] at f9))
  exact bodyPost_ret (results_one rfl _ _ (w.heap.size + 1) (bs D) _ rfl f9.range Tryd.underlying44 rfl HI2.out) rfl ⟨rfl, V9⟩
theorem digest_any (P M : List Nat) (i : Nat) (hi : i ≤ 1000000) (hP : P.length = 16) (hPB : AllB P) (hM : AllB M) (hl : M.length ≤ 100000) (w : World) (hk : Kc w) :
    Calls Tryd.prog 47 #[.agg (bs P).toArray, .int .i64 (i : Int), .string (mkS M)] w fun e w' => e = .returned (.agg (bs (msgL P i M)).toArray) ∧ Below w.heap.size w w' :=
  digest_aux P (enc (i : Int)) M (msgL P i M) (i : Int) (by unfold InR; omega) w (Lib.hid hP) (Lib.hid rfl) (Lib.hid (enc_lt _ (by omega))) (Lib.hid (ofd_len _ _))
    (Lib.hid fun W hW => of3 4 (by decide) P (enc (i : Int)) M hPB (by rw [hP]; decide) (enc_lt _ (by omega)) (by have := enc_len (i : Int) (by omega); omega) hM hl W (hk.later hW))
end Go.Proofs.YtbfoajfpnfkfnaaDoor
