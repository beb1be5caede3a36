import Derived.Test.YtbfoajfpnfkfnaaDoorShaT
import Derived.Test.YtbfoajfpnfkfnaaDoorPlain
import Derived.Test.YtbfoajfpnfkfnaaDoorS7
import Derived.KernelRfl
/-
  Plain facts, no program: SHA-256 in a form that the kernel computes quickly, and that it is the same.
-/
set_option linter.unusedVariables false
namespace Go.Proofs.YtbfoajfpnfkfnaaDoor

/-- The value is computed ahead of what follows. -/
noncomputable def frc {α : Type} (x : Nat) (k : Nat → α) : α := Nat.rec (motive := fun _ => α) (k 0) (fun n _ => k (Nat.succ n)) x
theorem frc_eq {α : Type} (x : Nat) (k : Nat → α) : frc x k = k x := by cases x <;> rfl
def dbl (x : Nat) : Nat := Nat.mul x 4294967297
def bS1 (y : Nat) : Nat := Nat.mod (Nat.xor (Nat.xor (Nat.div y 64) (Nat.div y 2048)) (Nat.div y 33554432)) 4294967296
def bS0 (y : Nat) : Nat := Nat.mod (Nat.xor (Nat.xor (Nat.div y 4) (Nat.div y 8192)) (Nat.div y 4194304)) 4294967296
def lS0 (x y : Nat) : Nat := Nat.xor (Nat.mod (Nat.xor (Nat.div y 128) (Nat.div y 262144)) 4294967296) (Nat.div x 8)
def lS1 (x y : Nat) : Nat := Nat.xor (Nat.mod (Nat.xor (Nat.div y 131072) (Nat.div y 524288)) 4294967296) (Nat.div x 1024)
def chF (e f g : Nat) : Nat := Nat.xor (Nat.land e f) (Nat.land (Nat.sub 4294967295 e) g)
def majF (a b c : Nat) : Nat := Nat.xor (Nat.xor (Nat.land a b) (Nat.land a c)) (Nat.land b c)

theorem rr_dbl (x n : Nat) (hx : x < 4294967296) (hn : n ≤ 32) : rr x n = (x * 4294967297 / 2 ^ n) % 4294967296 := by
  have hp : 2 ^ (32 - n) * 2 ^ n = 4294967296 := by rw [← Nat.pow_add, show 32 - n + n = 32 by omega]
  have hn0 : 0 < 2 ^ n := Nat.pow_pos (by decide)
  have e1 : x * 4294967297 = x * 2 ^ (32 - n) * 2 ^ n + x := by rw [Nat.mul_assoc, hp]; omega
  have e2 : x * 4294967297 / 2 ^ n = x * 2 ^ (32 - n) + x / 2 ^ n := by
    rw [e1, Nat.add_comm, Nat.add_mul_div_right _ _ hn0]; omega
  have hlt : x / 2 ^ n < 2 ^ (32 - n) := by
    rw [Nat.div_lt_iff_lt_mul hn0, hp]; exact hx
  rw [e2]
  unfold rr
  have e3 : x * 2 ^ (32 - n) % 4294967296 = (x % 2 ^ n) * 2 ^ (32 - n) := by
    rw [← hp, Nat.mul_comm (2 ^ (32 - n)) (2 ^ n), Nat.mul_mod_mul_right]
  have e4 : (x * 2 ^ (32 - n) + x / 2 ^ n) % 4294967296 = x * 2 ^ (32 - n) % 4294967296 + x / 2 ^ n := by
    have hm : x % 2 ^ n < 2 ^ n := Nat.mod_lt _ hn0
    have hb : (x % 2 ^ n) * 2 ^ (32 - n) + x / 2 ^ n < 4294967296 := by
      have : (x % 2 ^ n + 1) * 2 ^ (32 - n) ≤ 2 ^ n * 2 ^ (32 - n) := Nat.mul_le_mul_right _ hm
      rw [Nat.mul_comm (2 ^ n), hp, Nat.add_mul, Nat.one_mul] at this
      omega
    rw [Nat.add_mod, e3, Nat.mod_eq_of_lt (a := x / 2 ^ n) (by omega), Nat.mod_eq_of_lt hb]
  rw [e4, e3, ← Nat.shiftLeft_eq, Nat.shiftLeft_add_eq_or_of_lt hlt]
theorem xor_m (a b : Nat) : (a ^^^ b) % 4294967296 = a % 4294967296 ^^^ b % 4294967296 := by
  have := @Nat.xor_mod_two_pow a b 32
  simpa using this
theorem bg1_f {x : Nat} (hx : x < 4294967296) : bS1 (dbl x) = bg1 x := by
  show ((x * 4294967297 / 64 ^^^ x * 4294967297 / 2048) ^^^ x * 4294967297 / 33554432) % 4294967296 = _
  unfold bg1
  rw [rr_dbl x 6 hx (by decide), rr_dbl x 11 hx (by decide), rr_dbl x 25 hx (by decide), xor_m, xor_m]
theorem bg0_f {x : Nat} (hx : x < 4294967296) : bS0 (dbl x) = bg0 x := by
  show ((x * 4294967297 / 4 ^^^ x * 4294967297 / 8192) ^^^ x * 4294967297 / 4194304) % 4294967296 = _
  unfold bg0
  rw [rr_dbl x 2 hx (by decide), rr_dbl x 13 hx (by decide), rr_dbl x 22 hx (by decide), xor_m, xor_m]
theorem sg0_f {x : Nat} (hx : x < 4294967296) : lS0 x (dbl x) = sg0 x := by
  show (x * 4294967297 / 128 ^^^ x * 4294967297 / 262144) % 4294967296 ^^^ x / 8 = _
  unfold sg0
  rw [rr_dbl x 7 hx (by decide), rr_dbl x 18 hx (by decide), xor_m]
theorem sg1_f {x : Nat} (hx : x < 4294967296) : lS1 x (dbl x) = sg1 x := by
  show (x * 4294967297 / 131072 ^^^ x * 4294967297 / 524288) % 4294967296 ^^^ x / 1024 = _
  unfold sg1
  rw [rr_dbl x 17 hx (by decide), rr_dbl x 19 hx (by decide), xor_m]

/-- One word more. -/
def nwF (w0 w1 w9 w14 : Nat) : Nat := Nat.mod (Nat.add (Nat.add (Nat.add w0 (lS0 w1 (dbl w1))) w9) (lS1 w14 (dbl w14))) 4294967296
/-- The rounds: a state, and the next sixteen words. -/
noncomputable def rF (out : Nat → Nat → Nat → Nat → Nat → Nat → Nat → Nat → List Nat) (ks : List Nat) :
    Nat → Nat → Nat → Nat → Nat → Nat → Nat → Nat → Nat → Nat → Nat → Nat → Nat → Nat → Nat → Nat → Nat → Nat → Nat → Nat → Nat → Nat → Nat → Nat → List Nat :=
  List.rec (motive := fun _ => Nat → Nat → Nat → Nat → Nat → Nat → Nat → Nat → Nat → Nat → Nat → Nat → Nat → Nat → Nat → Nat → Nat → Nat → Nat → Nat → Nat → Nat → Nat → Nat → List Nat)
    (fun a b c d e f g h _ _ _ _ _ _ _ _ _ _ _ _ _ _ _ _ => out a b c d e f g h)
    (fun k _ ih a b c d e f g h w0 w1 w2 w3 w4 w5 w6 w7 w8 w9 w10 w11 w12 w13 w14 w15 =>
      frc (Nat.add (Nat.add (Nat.add (Nat.add h (bS1 (dbl e))) (chF e f g)) k) w0) fun t =>
      frc (Nat.mod (Nat.add t (Nat.add (bS0 (dbl a)) (majF a b c))) 4294967296) fun na =>
      frc (Nat.mod (Nat.add d t) 4294967296) fun ne =>
      ih na a b c ne e f g w1 w2 w3 w4 w5 w6 w7 w8 w9 w10 w11 w12 w13 w14 w15 (nwF w0 w1 w9 w14)) ks
theorem rF_nil (out : Nat → Nat → Nat → Nat → Nat → Nat → Nat → Nat → List Nat) (a b c d e f g h w0 w1 w2 w3 w4 w5 w6 w7 w8 w9 w10 w11 w12 w13 w14 w15 : Nat) :
    rF out [] a b c d e f g h w0 w1 w2 w3 w4 w5 w6 w7 w8 w9 w10 w11 w12 w13 w14 w15 = out a b c d e f g h := rfl
theorem rF_cons (out : Nat → Nat → Nat → Nat → Nat → Nat → Nat → Nat → List Nat) (k : Nat) (ks : List Nat) (a b c d e f g h w0 w1 w2 w3 w4 w5 w6 w7 w8 w9 w10 w11 w12 w13 w14 w15 : Nat) :
    rF out (k :: ks) a b c d e f g h w0 w1 w2 w3 w4 w5 w6 w7 w8 w9 w10 w11 w12 w13 w14 w15 =
      rF out ks ((h + bS1 (dbl e) + chF e f g + k + w0 + (bS0 (dbl a) + majF a b c)) % 4294967296) a b c ((d + (h + bS1 (dbl e) + chF e f g + k + w0)) % 4294967296) e f g w1 w2 w3 w4 w5 w6 w7 w8 w9 w10 w11 w12 w13 w14 w15 (nwF w0 w1 w9 w14) := by
  unfold rF
  simp only [frc_eq]
  rfl

/-- The schedule, longer than it need be. -/
def gr (b : List Nat) : List Nat := grow 64 (words16 b)
theorem gr_len (b : List Nat) : (gr b).length = 80 := by rw [gr, grow_len, words16_len]
theorem grow_pre (w : List Nat) (n : Nat) : ∀ m, ∃ x, grow (n + m) w = grow n w ++ x
  | 0 => ⟨[], by simp⟩
  | m + 1 => by
    obtain ⟨x, hx⟩ := grow_pre w n m
    refine ⟨x ++ [nextW (grow (n + m) w) (w.length + (n + m))], ?_⟩
    rw [← Nat.add_assoc, grow_succ, hx, List.append_assoc]
theorem getD_pre (x y : List Nat) (j : Nat) (h : j < x.length) : (x ++ y).getD j 0 = x.getD j 0 := by
  rw [List.getD_eq_getElem?_getD, List.getD_eq_getElem?_getD, List.getElem?_append_left h]
theorem gr_get (b : List Nat) (n j : Nat) (hn : n ≤ 64) (hj : j < 16 + n) : (gr b).getD j 0 = (grow n (words16 b)).getD j 0 := by
  obtain ⟨x, hx⟩ := grow_pre (words16 b) n (64 - n)
  rw [show n + (64 - n) = 64 by omega] at hx
  unfold gr
  rw [hx, getD_pre _ _ _ (by rw [grow_len, words16_len]; exact hj)]
theorem gr_word (b : List Nat) (i : Nat) (hi : i < 16) : (gr b).getD i 0 = word4 b i := by
  rw [gr_get b 0 i (by omega) (by omega)]
  show (words16 b).getD i 0 = _
  unfold words16
  rw [List.getD_eq_getElem?_getD, List.getElem?_map, List.getElem?_range hi, Option.map_some, Option.getD_some]
theorem gr_next (b : List Nat) (j : Nat) (hj : j < 64) : (gr b).getD (16 + j) 0 = nextW (gr b) (16 + j) := by
  have h1 : (gr b).getD (16 + j) 0 = nextW (grow j (words16 b)) (16 + j) := by
    rw [gr_get b (j + 1) (16 + j) (by omega) (by omega), grow_succ, words16_len, List.getD_eq_getElem?_getD, List.getElem?_append_right (by rw [grow_len, words16_len]; omega), grow_len, words16_len, Nat.sub_self, List.getElem?_cons_zero, Option.getD_some]
  rw [h1]
  unfold nextW
  rw [gr_get b j (16 + j - 16) (by omega) (by omega), gr_get b j (16 + j - 15) (by omega) (by omega), gr_get b j (16 + j - 7) (by omega) (by omega), gr_get b j (16 + j - 2) (by omega) (by omega)]
theorem gr_all {b : List Nat} (h : AllB b) : AllW (gr b) := grow_all 64 (words16_all h)
theorem gr_nw {b : List Nat} (h : AllB b) (t : Nat) (ht : t < 64) : nwF ((gr b).getD t 0) ((gr b).getD (t + 1) 0) ((gr b).getD (t + 9) 0) ((gr b).getD (t + 14) 0) = (gr b).getD (t + 16) 0 := by
  have h1 := getD_lt (gr_all h) (by decide) (t + 1)
  have h14 := getD_lt (gr_all h) (by decide) (t + 14)
  rw [Nat.add_comm t 16, gr_next b t ht]
  unfold nextW
  rw [show 16 + t - 16 = t by omega, show 16 + t - 15 = t + 1 by omega, show 16 + t - 7 = t + 9 by omega, show 16 + t - 2 = t + 14 by omega]
  show ((gr b).getD t 0 + lS0 _ (dbl _) + _ + lS1 _ (dbl _)) % 4294967296 = _
  rw [sg0_f h1, sg1_f h14]
  omega
theorem rF_step {b : List Nat} (hb : AllB b) (out : Nat → Nat → Nat → Nat → Nat → Nat → Nat → Nat → List Nat) (t : Nat) (ht : t < 64) (s : St) (ho : s.Ok) :
    rF out (kc.drop t) s.a s.b s.c s.d s.e s.f s.g s.h
      ((gr b).getD t 0) ((gr b).getD (t + 1) 0) ((gr b).getD (t + 2) 0) ((gr b).getD (t + 3) 0) ((gr b).getD (t + 4) 0) ((gr b).getD (t + 5) 0) ((gr b).getD (t + 6) 0) ((gr b).getD (t + 7) 0) ((gr b).getD (t + 8) 0) ((gr b).getD (t + 9) 0) ((gr b).getD (t + 10) 0) ((gr b).getD (t + 11) 0) ((gr b).getD (t + 12) 0) ((gr b).getD (t + 13) 0) ((gr b).getD (t + 14) 0) ((gr b).getD (t + 15) 0)
    = rF out (kc.drop (t + 1)) (step s (kc.getD t 0) ((gr b).getD t 0)).a (step s (kc.getD t 0) ((gr b).getD t 0)).b (step s (kc.getD t 0) ((gr b).getD t 0)).c (step s (kc.getD t 0) ((gr b).getD t 0)).d (step s (kc.getD t 0) ((gr b).getD t 0)).e (step s (kc.getD t 0) ((gr b).getD t 0)).f (step s (kc.getD t 0) ((gr b).getD t 0)).g (step s (kc.getD t 0) ((gr b).getD t 0)).h
      ((gr b).getD (t + 1) 0) ((gr b).getD (t + 2) 0) ((gr b).getD (t + 3) 0) ((gr b).getD (t + 4) 0) ((gr b).getD (t + 5) 0) ((gr b).getD (t + 6) 0) ((gr b).getD (t + 7) 0) ((gr b).getD (t + 8) 0) ((gr b).getD (t + 9) 0) ((gr b).getD (t + 10) 0) ((gr b).getD (t + 11) 0) ((gr b).getD (t + 12) 0) ((gr b).getD (t + 13) 0) ((gr b).getD (t + 14) 0) ((gr b).getD (t + 15) 0) ((gr b).getD (t + 16) 0) := by
  have hk : kc.drop t = kc.getD t 0 :: kc.drop (t + 1) := by
    rw [List.drop_eq_getElem_cons (by rw [kc_len]; exact ht), List.getD_eq_getElem?_getD, List.getElem?_eq_getElem (by rw [kc_len]; exact ht)]; rfl
  rw [hk, rF_cons, gr_nw hb t ht, bg1_f ho.e, bg0_f ho.a]
  generalize kc.drop (t + 1) = ks
  generalize kc.getD t 0 = k
  generalize (gr b).getD t 0 = w
  generalize (gr b).getD (t + 1) 0 = w1
  generalize (gr b).getD (t + 16) 0 = w16
  obtain ⟨a, b', c, d, e, f, g, h⟩ := s
  have ea : (h + bg1 e + chF e f g + k + w + (bg0 a + majF a b' c)) % 4294967296 = (step ⟨a, b', c, d, e, f, g, h⟩ k w).a := by
    show _ = (((((h + bg1 e) % 4294967296 + chF e f g) % 4294967296 + k) % 4294967296 + w) % 4294967296 + (bg0 a + majF a b' c) % 4294967296) % 4294967296
    omega
  have ee : (d + (h + bg1 e + chF e f g + k + w)) % 4294967296 = (step ⟨a, b', c, d, e, f, g, h⟩ k w).e := by
    show _ = (d + ((((h + bg1 e) % 4294967296 + chF e f g) % 4294967296 + k) % 4294967296 + w) % 4294967296) % 4294967296
    omega
  show rF out ks ((h + bg1 e + chF e f g + k + w + (bg0 a + majF a b' c)) % 4294967296) a b' c ((d + (h + bg1 e + chF e f g + k + w)) % 4294967296) e f g _ _ _ _ _ _ _ _ _ _ _ _ _ _ _ _ = _
  rw [ea, ee]
  rfl
theorem rF_rnds {b s : List Nat} (hb : AllB b) (hs : AllW s) (out : Nat → Nat → Nat → Nat → Nat → Nat → Nat → Nat → List Nat) : ∀ m t, t + m = 64 →
    rF out (kc.drop t) (rnds (sched b) (St.of s) t).a (rnds (sched b) (St.of s) t).b (rnds (sched b) (St.of s) t).c (rnds (sched b) (St.of s) t).d (rnds (sched b) (St.of s) t).e (rnds (sched b) (St.of s) t).f (rnds (sched b) (St.of s) t).g (rnds (sched b) (St.of s) t).h
      ((gr b).getD t 0) ((gr b).getD (t + 1) 0) ((gr b).getD (t + 2) 0) ((gr b).getD (t + 3) 0) ((gr b).getD (t + 4) 0) ((gr b).getD (t + 5) 0) ((gr b).getD (t + 6) 0) ((gr b).getD (t + 7) 0) ((gr b).getD (t + 8) 0) ((gr b).getD (t + 9) 0) ((gr b).getD (t + 10) 0) ((gr b).getD (t + 11) 0) ((gr b).getD (t + 12) 0) ((gr b).getD (t + 13) 0) ((gr b).getD (t + 14) 0) ((gr b).getD (t + 15) 0)
    = out (rnds (sched b) (St.of s) 64).a (rnds (sched b) (St.of s) 64).b (rnds (sched b) (St.of s) 64).c (rnds (sched b) (St.of s) 64).d (rnds (sched b) (St.of s) 64).e (rnds (sched b) (St.of s) 64).f (rnds (sched b) (St.of s) 64).g (rnds (sched b) (St.of s) 64).h
  | 0, t, h => by
    obtain rfl : t = 64 := h
    rw [List.drop_of_length_le (by rw [kc_len]; exact Nat.le_refl _), rF_nil]
  | m + 1, t, h => by
    have hw : (gr b).getD t 0 = (sched b).getD t 0 := gr_get b 48 t (by omega) (by omega)
    have ih := rF_rnds hb hs out m (t + 1) (by omega)
    have hst : rnds (sched b) (St.of s) (t + 1) = step (rnds (sched b) (St.of s) t) (kc.getD t 0) ((gr b).getD t 0) := by rw [hw]; rfl
    rw [hst] at ih
    exact (rF_step hb out t (by omega) _ (rnds_ok (sched b) (of_ok hs) t)).trans ih

theorem val_nil' : val [] = 0 := rfl
theorem val_app (x y : List Nat) : val (x ++ y) = val x * 256 ^ y.length + val y := by
  induction x with
  | nil => rw [List.nil_append]; simp [val_nil]
  | cons a x ih => rw [List.cons_append, val_cons, val_cons, ih, List.length_append, Nat.pow_add, Nat.add_mul, Nat.mul_assoc, Nat.add_assoc]
noncomputable def valF (l : List Nat) : Nat := List.rec (motive := fun _ => Nat → Nat) (fun a => a) (fun d _ ih a => ih (Nat.add (Nat.mul 256 a) d)) l 0
theorem valF_any (l : List Nat) : ∀ a, List.rec (motive := fun _ => Nat → Nat) (fun a => a) (fun d _ ih a => ih (Nat.add (Nat.mul 256 a) d)) l a = l.foldl (fun a d => 256 * a + d) a := by
  induction l with
  | nil => intro a; rfl
  | cons d l ih => intro a; exact ih _
theorem valF_eq (l : List Nat) : valF l = val l := valF_any l 0
theorem word_val {b : List Nat} (hb : AllB b) (hl : b.length = 64) (i : Nat) (hi : i < 16) : val b / 256 ^ (60 - 4 * i) % 4294967296 = word4 b i := by
  have e : b = b.take (4 * i) ++ ([b.getD (4 * i) 0, b.getD (4 * i + 1) 0, b.getD (4 * i + 2) 0, b.getD (4 * i + 3) 0] ++ b.drop (4 * i + 4)) := by
    have g : ∀ j, j < 64 → b.drop j = b.getD j 0 :: b.drop (j + 1) := fun j hj => by
      rw [List.drop_eq_getElem_cons (by omega), List.getD_eq_getElem?_getD, List.getElem?_eq_getElem (by omega)]; rfl
    have : b.drop (4 * i) = [b.getD (4 * i) 0, b.getD (4 * i + 1) 0, b.getD (4 * i + 2) 0, b.getD (4 * i + 3) 0] ++ b.drop (4 * i + 4) := by
      rw [g _ (by omega), g _ (by omega), g _ (by omega), g _ (by omega)]; rfl
    rw [← this, List.take_append_drop]
  have hd : (b.drop (4 * i + 4)).length = 60 - 4 * i := by rw [List.length_drop]; omega
  have hv := val_lt (b.drop (4 * i + 4)) (fun d h => hb d (List.mem_of_mem_drop h))
  have h0 := getD_lt hb (by decide) (4 * i)
  have h1 := getD_lt hb (by decide) (4 * i + 1)
  have h2 := getD_lt hb (by decide) (4 * i + 2)
  have h3 := getD_lt hb (by decide) (4 * i + 3)
  have hm : val [b.getD (4 * i) 0, b.getD (4 * i + 1) 0, b.getD (4 * i + 2) 0, b.getD (4 * i + 3) 0] = word4 b i := by
    unfold word4
    rw [val_cons, val_cons, val_cons, val_cons, val_nil]
    simp only [List.length_cons, List.length_nil]
    omega
  have hw := word4_lt hb i
  have ev : val b = (val (b.take (4 * i)) * 4294967296 + word4 b i) * 256 ^ (60 - 4 * i) + val (b.drop (4 * i + 4)) := by
    have := congrArg val e
    rw [val_app, val_app, hm, List.length_append, hd] at this
    rw [this]
    rw [show ([b.getD (4 * i) 0, b.getD (4 * i + 1) 0, b.getD (4 * i + 2) 0, b.getD (4 * i + 3) 0] : List Nat).length = 4 from rfl, Nat.pow_add, Nat.add_mul, ← Nat.mul_assoc, show (256 : Nat) ^ 4 = 4294967296 from rfl, Nat.add_assoc]
  rw [hd] at hv
  have hp : 0 < 256 ^ (60 - 4 * i) := Nat.pow_pos (by decide)
  rw [ev, Nat.add_comm, Nat.add_mul_div_right _ _ hp, Nat.div_eq_of_lt hv, Nat.zero_add]
  omega

/-- One block, as a number. -/
noncomputable def cF (a b c d e f g h V : Nat) : List Nat :=
  rF (fun a' b' c' d' e' f' g' h' => [Nat.mod (Nat.add a a') 4294967296, Nat.mod (Nat.add b b') 4294967296, Nat.mod (Nat.add c c') 4294967296, Nat.mod (Nat.add d d') 4294967296, Nat.mod (Nat.add e e') 4294967296, Nat.mod (Nat.add f f') 4294967296, Nat.mod (Nat.add g g') 4294967296, Nat.mod (Nat.add h h') 4294967296]) kc a b c d e f g h
    (Nat.mod (Nat.div V (Nat.pow 256 60)) 4294967296) (Nat.mod (Nat.div V (Nat.pow 256 56)) 4294967296) (Nat.mod (Nat.div V (Nat.pow 256 52)) 4294967296) (Nat.mod (Nat.div V (Nat.pow 256 48)) 4294967296)
    (Nat.mod (Nat.div V (Nat.pow 256 44)) 4294967296) (Nat.mod (Nat.div V (Nat.pow 256 40)) 4294967296) (Nat.mod (Nat.div V (Nat.pow 256 36)) 4294967296) (Nat.mod (Nat.div V (Nat.pow 256 32)) 4294967296)
    (Nat.mod (Nat.div V (Nat.pow 256 28)) 4294967296) (Nat.mod (Nat.div V (Nat.pow 256 24)) 4294967296) (Nat.mod (Nat.div V (Nat.pow 256 20)) 4294967296) (Nat.mod (Nat.div V (Nat.pow 256 16)) 4294967296)
    (Nat.mod (Nat.div V (Nat.pow 256 12)) 4294967296) (Nat.mod (Nat.div V (Nat.pow 256 8)) 4294967296) (Nat.mod (Nat.div V (Nat.pow 256 4)) 4294967296) (Nat.mod (Nat.div V (Nat.pow 256 0)) 4294967296)
noncomputable def compF (s : List Nat) (V : Nat) : List Nat :=
  match s with
  | [a, b, c, d, e, f, g, h] => frc V fun V => cF a b c d e f g h V
  | _ => []
theorem len8 {s : List Nat} (h : s.length = 8) : ∃ a b c d e f g i, s = [a, b, c, d, e, f, g, i] := by
  match s, h with
  | [a, b, c, d, e, f, g, i], _ => exact ⟨a, b, c, d, e, f, g, i, rfl⟩
theorem compF_eq {s b : List Nat} (hs : s.length = 8) (hw : AllW s) (hb : AllB b) (hl : b.length = 64) : compF s (valF b) = comp s b := by
  obtain ⟨a, b', c, d, e, f, g, i, rfl⟩ := len8 hs
  show frc _ (fun V => cF a b' c d e f g i V) = _
  rw [frc_eq, valF_eq]
  have h := rF_rnds hb hw (fun a0 b0 c0 d0 e0 f0 g0 h0 => [(a + a0) % 4294967296, (b' + b0) % 4294967296, (c + c0) % 4294967296, (d + d0) % 4294967296, (e + e0) % 4294967296, (f + f0) % 4294967296, (g + g0) % 4294967296, (i + h0) % 4294967296]) 64 0 rfl
  have w := fun j hj => (gr_word b j hj).trans (word_val hb hl j hj).symm
  rw [show kc.drop 0 = kc from rfl] at h
  simp only [Nat.zero_add] at h
  rw [w 0 (by decide), w 1 (by decide), w 2 (by decide), w 3 (by decide), w 4 (by decide), w 5 (by decide), w 6 (by decide), w 7 (by decide), w 8 (by decide), w 9 (by decide), w 10 (by decide), w 11 (by decide), w 12 (by decide), w 13 (by decide), w 14 (by decide), w 15 (by decide)] at h
  exact h
noncomputable def runF : Nat → List Nat → List Nat → List Nat
  | 0, s, _ => s
  | n + 1, s, m => runF n (compF s (valF (m.take 64))) (m.drop 64)
theorem runF_eq : ∀ (n : Nat) {s m : List Nat}, s.length = 8 → AllW s → AllB m → 64 * n ≤ m.length → runF n s m = runB s n m
  | 0, _, _, _, _, _, _ => rfl
  | n + 1, s, m, hs, hw, hm, hl => by
    show runF n (compF s (valF (m.take 64))) (m.drop 64) = runB (comp s (m.take 64)) n (m.drop 64)
    rw [compF_eq hs hw (fun d h => hm d (List.mem_of_mem_take h)) (by rw [List.length_take]; omega)]
    exact runF_eq n (comp_len _ hs) (comp_all _) (fun d h => hm d (List.mem_of_mem_drop h)) (by rw [List.length_drop]; omega)
def bytes4 (x : Nat) : List Nat := [Nat.mod (Nat.div x 16777216) 256, Nat.mod (Nat.div x 65536) 256, Nat.mod (Nat.div x 256) 256, Nat.mod x 256]
/-- The first sixteen bytes. -/
def out16 (s : List Nat) : List Nat :=
  match s with
  | a :: b :: c :: d :: _ => bytes4 a ++ (bytes4 b ++ (bytes4 c ++ bytes4 d))
  | _ => []
/-- All of them. -/
def out32 (s : List Nat) : List Nat :=
  match s with
  | [a, b, c, d, e, f, g, h] => bytes4 a ++ (bytes4 b ++ (bytes4 c ++ (bytes4 d ++ (bytes4 e ++ (bytes4 f ++ (bytes4 g ++ bytes4 h))))))
  | _ => []
theorem out32_eq {s : List Nat} (h : s.length = 8) : out32 s = outB s := by
  obtain ⟨a, b, c, d, e, f, g, i, rfl⟩ := len8 h
  simp [out32, outB, bytes4, List.range, List.range.loop]
  repeat' apply And.intro
  all_goals rfl
theorem out16_eq {s : List Nat} (h : s.length = 8) : out16 s = (outB s).take 16 := by
  rw [← out32_eq h]
  obtain ⟨a, b, c, d, e, f, g, i, rfl⟩ := len8 h
  simp [out16, out32, bytes4]
theorem pad_all {m : List Nat} (h : AllB m) : AllB (pad m) := by
  intro d hd
  unfold pad at hd
  rcases List.mem_append.1 hd with hd | hd
  · rcases List.mem_append.1 hd with hd | hd
    · exact h d hd
    · rcases List.mem_cons.1 hd with rfl | hd
      · decide
      · rw [(List.mem_replicate.1 hd).2]; decide
  · unfold be64 at hd
    obtain ⟨i, _, rfl⟩ := List.mem_map.1 hd
    exact Nat.mod_lt _ (by decide)
noncomputable def shaF (m : List Nat) : List Nat := out32 (runF ((pad m).length / 64) h0 (pad m))
noncomputable def shaH (m : List Nat) : List Nat := out16 (runF ((pad m).length / 64) h0 (pad m))
theorem shaF_eq {m : List Nat} (h : AllB m) : shaF m = sha m := by
  unfold shaF sha
  rw [runF_eq _ rfl h0_all (pad_all h) (by omega), out32_eq (runB_len _ _ rfl)]
theorem shaH_eq {m : List Nat} (h : AllB m) : shaH m = (sha m).take 16 := by
  unfold shaH sha
  rw [runF_eq _ rfl h0_all (pad_all h) (by omega), out16_eq (runB_len _ _ rfl)]
end Go.Proofs.YtbfoajfpnfkfnaaDoor
/-
  Plain facts, no program: the steps of a one-time key in a form that the kernel computes quickly.
-/
set_option linter.unusedVariables false
namespace Go.Proofs.YtbfoajfpnfkfnaaDoor

def encE (n : Nat) : List Nat := bif Nat.beq n 0 then [128] else bif Nat.ble n 255 then [129, n] else [130, Nat.div n 256, Nat.mod n 256]
theorem encE_eq (n : Nat) (h : n < 65536) : encE n = enc (n : Int) := by
  rw [enc_pos]
  unfold encE
  by_cases h0 : n = 0
  · subst h0; rw [digs_zero]; rfl
  · rw [show Nat.beq n 0 = false from by cases n with | zero => omega | succ n => rfl]
    rw [digs_pos h0]
    by_cases h1 : n ≤ 255
    · rw [show Nat.ble n 255 = true from Nat.ble_eq_true_of_le h1, show n / 256 = 0 by omega, digs_zero]
      show [129, n] = _
      rw [show n % 256 = n by omega]; rfl
    · rw [show Nat.ble n 255 = false from by cases hb : Nat.ble n 255 with | false => rfl | true => exact absurd (Nat.le_of_ble_eq_true hb) h1]
      rw [digs_pos (show n / 256 ≠ 0 by omega), show n / 256 / 256 = 0 by omega, digs_zero]
      show [130, n / 256, n % 256] = _
      rw [show n / 256 % 256 = n / 256 by omega]; rfl
def intsF (l : List Nat) : List Nat := encE l.length ++ l.flatMap encE
theorem intsF_eq (l : List Nat) (hl : l.length < 65536) (h : ∀ x ∈ l, x < 65536) : intsF l = ints l := by
  unfold intsF ints encL
  rw [List.length_map, encE_eq _ hl]
  congr 1
  rw [List.flatMap_map]
  induction l with
  | nil => rfl
  | cons a l ih => rw [List.flatMap_cons, List.flatMap_cons, encE_eq a (h a (List.mem_cons_self ..)), ih (by simp at hl; omega) (fun x hx => h x (List.mem_cons_of_mem _ hx))]
def ofLF (tag : Nat) (ps : List (List Nat)) : List Nat := tag :: ps.flatMap fun p => encE p.length ++ p
theorem ofLF_eq (tag : Nat) (ps : List (List Nat)) (h : ∀ p ∈ ps, p.length < 65536) : ofLF tag ps = ofL tag ps := by
  unfold ofLF ofL
  congr 1
  induction ps with
  | nil => rfl
  | cons a l ih => rw [List.flatMap_cons, List.flatMap_cons, encE_eq _ (h a (List.mem_cons_self ..)), ih (fun x hx => h x (List.mem_cons_of_mem _ hx))]
theorem ofL_all (tag : Nat) (ht : tag < 256) (ps : List (List Nat)) (h : ∀ p ∈ ps, p.length < 65536) (hb : ∀ p ∈ ps, AllB p) : AllB (ofL tag ps) := by
  intro d hd
  unfold ofL at hd
  rcases List.mem_cons.1 hd with rfl | hd
  · exact ht
  · obtain ⟨p, hp, hd⟩ := List.mem_flatMap.1 hd
    rcases List.mem_append.1 hd with hd | hd
    · exact enc_lt _ (by have := h p hp; omega) d hd
    · exact hb p hp d hd
noncomputable def ofdF (tag : Nat) (ps : List (List Nat)) : List Nat := shaH (ofLF tag ps)
theorem ofdF_eq (tag : Nat) (ht : tag < 256) (ps : List (List Nat)) (h : ∀ p ∈ ps, p.length < 65536) (hb : ∀ p ∈ ps, AllB p) : ofdF tag ps = ofd tag ps := by
  unfold ofdF ofd
  rw [ofLF_eq tag ps h, shaH_eq (ofL_all tag ht ps h hb)]

/-- Sixteen bytes of a number. -/
def unp (x : Nat) : List Nat := [Nat.mod (Nat.div x (Nat.pow 256 15)) 256, Nat.mod (Nat.div x (Nat.pow 256 14)) 256, Nat.mod (Nat.div x (Nat.pow 256 13)) 256, Nat.mod (Nat.div x (Nat.pow 256 12)) 256, Nat.mod (Nat.div x (Nat.pow 256 11)) 256, Nat.mod (Nat.div x (Nat.pow 256 10)) 256, Nat.mod (Nat.div x (Nat.pow 256 9)) 256, Nat.mod (Nat.div x (Nat.pow 256 8)) 256, Nat.mod (Nat.div x (Nat.pow 256 7)) 256, Nat.mod (Nat.div x (Nat.pow 256 6)) 256, Nat.mod (Nat.div x (Nat.pow 256 5)) 256, Nat.mod (Nat.div x (Nat.pow 256 4)) 256, Nat.mod (Nat.div x (Nat.pow 256 3)) 256, Nat.mod (Nat.div x (Nat.pow 256 2)) 256, Nat.mod (Nat.div x (Nat.pow 256 1)) 256, Nat.mod x 256]
theorem unp_len (x : Nat) : (unp x).length = 16 := rfl
theorem unp_all (x : Nat) : AllB (unp x) := by
  intro d hd
  simp only [unp, List.mem_cons, List.not_mem_nil, or_false] at hd
  rcases hd with h | h | h | h | h | h | h | h | h | h | h | h | h | h | h | h <;> (rw [h]; exact Nat.mod_lt _ (by decide))
theorem val_byte : ∀ (l r : List Nat) (x : Nat), AllB r → x < 256 → Nat.mod (Nat.div (val (l ++ x :: r)) (Nat.pow 256 r.length)) 256 = x := by
  intro l r x hr hx
  show val (l ++ x :: r) / 256 ^ r.length % 256 = x
  have hv := val_lt r hr
  have hp : 0 < 256 ^ r.length := Nat.pow_pos (by decide)
  rw [val_app, val_cons, List.length_cons, Nat.pow_succ, show val l * (256 ^ r.length * 256) + (x * 256 ^ r.length + val r) = val r + (val l * 256 + x) * 256 ^ r.length by rw [Nat.add_mul, Nat.mul_assoc, Nat.mul_comm 256 (256 ^ r.length)]; omega, Nat.add_mul_div_right _ _ hp, Nat.div_eq_of_lt hv, Nat.zero_add]
  omega
theorem unp_val (l : List Nat) (hl : l.length = 16) (hb : AllB l) : unp (val l) = l := by
  match l, hl with
  | [a0, a1, a2, a3, a4, a5, a6, a7, a8, a9, a10, a11, a12, a13, a14, a15], _ =>
    have hb' : ∀ (p r : List Nat) (x : Nat), [a0, a1, a2, a3, a4, a5, a6, a7, a8, a9, a10, a11, a12, a13, a14, a15] = p ++ x :: r → Nat.mod (Nat.div (val [a0, a1, a2, a3, a4, a5, a6, a7, a8, a9, a10, a11, a12, a13, a14, a15]) (Nat.pow 256 r.length)) 256 = x := by
      intro p r x e
      rw [e]
      exact val_byte p r x (fun d hd => hb d (by rw [e]; simp [hd])) (hb x (by rw [e]; simp))
    have h15 : Nat.mod (val [a0, a1, a2, a3, a4, a5, a6, a7, a8, a9, a10, a11, a12, a13, a14, a15]) 256 = a15 := by
      have := hb' [a0, a1, a2, a3, a4, a5, a6, a7, a8, a9, a10, a11, a12, a13, a14] [] a15 rfl
      rw [show Nat.div (val [a0, a1, a2, a3, a4, a5, a6, a7, a8, a9, a10, a11, a12, a13, a14, a15]) (Nat.pow 256 ([] : List Nat).length) = val [a0, a1, a2, a3, a4, a5, a6, a7, a8, a9, a10, a11, a12, a13, a14, a15] from Nat.div_one _] at this
      exact this
    have g0 := hb' [] [a1, a2, a3, a4, a5, a6, a7, a8, a9, a10, a11, a12, a13, a14, a15] a0 rfl
    have g1 := hb' [a0] [a2, a3, a4, a5, a6, a7, a8, a9, a10, a11, a12, a13, a14, a15] a1 rfl
    have g2 := hb' [a0, a1] [a3, a4, a5, a6, a7, a8, a9, a10, a11, a12, a13, a14, a15] a2 rfl
    have g3 := hb' [a0, a1, a2] [a4, a5, a6, a7, a8, a9, a10, a11, a12, a13, a14, a15] a3 rfl
    have g4 := hb' [a0, a1, a2, a3] [a5, a6, a7, a8, a9, a10, a11, a12, a13, a14, a15] a4 rfl
    have g5 := hb' [a0, a1, a2, a3, a4] [a6, a7, a8, a9, a10, a11, a12, a13, a14, a15] a5 rfl
    have g6 := hb' [a0, a1, a2, a3, a4, a5] [a7, a8, a9, a10, a11, a12, a13, a14, a15] a6 rfl
    have g7 := hb' [a0, a1, a2, a3, a4, a5, a6] [a8, a9, a10, a11, a12, a13, a14, a15] a7 rfl
    have g8 := hb' [a0, a1, a2, a3, a4, a5, a6, a7] [a9, a10, a11, a12, a13, a14, a15] a8 rfl
    have g9 := hb' [a0, a1, a2, a3, a4, a5, a6, a7, a8] [a10, a11, a12, a13, a14, a15] a9 rfl
    have g10 := hb' [a0, a1, a2, a3, a4, a5, a6, a7, a8, a9] [a11, a12, a13, a14, a15] a10 rfl
    have g11 := hb' [a0, a1, a2, a3, a4, a5, a6, a7, a8, a9, a10] [a12, a13, a14, a15] a11 rfl
    have g12 := hb' [a0, a1, a2, a3, a4, a5, a6, a7, a8, a9, a10, a11] [a13, a14, a15] a12 rfl
    have g13 := hb' [a0, a1, a2, a3, a4, a5, a6, a7, a8, a9, a10, a11, a12] [a14, a15] a13 rfl
    have g14 := hb' [a0, a1, a2, a3, a4, a5, a6, a7, a8, a9, a10, a11, a12, a13] [a15] a14 rfl
    generalize val [a0, a1, a2, a3, a4, a5, a6, a7, a8, a9, a10, a11, a12, a13, a14, a15] = x at *
    unfold unp
    simp only [List.length_cons, List.length_nil] at g0 g1 g2 g3 g4 g5 g6 g7 g8 g9 g10 g11 g12 g13 g14
    rw [show (15 : Nat) = 14 + 1 from rfl]
    simp only [g0, g1, g2, g3, g4, g5, g6, g7, g8, g9, g10, g11, g12, g13, g14, h15]
/-- What the kernel asks: a list of bytes is a number. -/
noncomputable def isN (l : List Nat) (x : Nat) : Bool := Nat.beq (valF l) x
theorem isN_eq {l m : List Nat} {x : Nat} (h : isN l x = true) (e : l = m) (hl : m.length = 16) (hb : AllB m) : m = unp x := by
  subst e
  unfold isN at h
  rw [valF_eq] at h
  rw [← Nat.eq_of_beq_eq_true h, unp_val l hl hb]

/-! ### The seed of the example. -/
def sd5 : List Nat := List.replicate 32 5
/-- Behind the block of the key. -/
noncomputable def shaM (s t : List Nat) : List Nat := out32 (compF s (valF (t ++ 128 :: List.replicate (55 - t.length) 0 ++ be64 (8 * (64 + t.length)))))
theorem shaM_eq {X t s : List Nat} (hX : X.length = 64) (hXB : AllB X) (ht : t.length ≤ 55) (htB : AllB t) (hs : comp h0 X = s) : shaM s t = sha (X ++ t) := by
  have hl : (X ++ t).length = 64 + t.length := by rw [List.length_append, hX]
  have hw : sWords (X ++ t) = s := by
    unfold sWords
    rw [hl, show (64 + t.length) / 64 = 1 by omega, runB_app _ _ _ _ (by omega), runB_one _ _ hX, hs]
  have hr : sRest (X ++ t) = t := by
    unfold sRest
    rw [hl, show (64 + t.length) / 64 = 1 by omega, List.drop_append_of_le_length (by omega), List.drop_of_length_le (by omega), List.nil_append]
  rw [sha_one _ (by rw [hl]; omega), hw, hr, hl, show (64 + t.length) % 64 = t.length by omega]
  unfold shaM
  have hs8 : s.length = 8 := by rw [← hs]; exact comp_len _ rfl
  have hsw : AllW s := by rw [← hs]; exact comp_all _
  rw [compF_eq hs8 hsw, out32_eq (comp_len _ hs8)]
  · intro d hd
    rcases List.mem_append.1 hd with hd | hd
    · rcases List.mem_append.1 hd with hd | hd
      · exact htB d hd
      · rcases List.mem_cons.1 hd with rfl | hd
        · decide
        · rw [(List.mem_replicate.1 hd).2]; decide
    · exact be64_all _ d hd
  · rw [List.length_append, List.length_append, List.length_cons, List.length_replicate, be64_len]; omega
def keyI : List Nat := xorL (key64 sd5) 54
def keyO : List Nat := xorL (key64 sd5) 92
theorem key_len (x : Nat) : (xorL (key64 sd5) x).length = 64 := by rw [xorL_len, key64_len]
theorem sd5_all : AllB sd5 := by unfold AllB sd5; decide
noncomputable def sI : List Nat := compF h0 (valF keyI)
noncomputable def sO : List Nat := compF h0 (valF keyO)
theorem sI_eq : comp h0 keyI = sI := (compF_eq rfl h0_all (xorL_all (key64_all sd5_all) (by decide)) (key_len 54)).symm
theorem sO_eq : comp h0 keyO = sO := (compF_eq rfl h0_all (xorL_all (key64_all sd5_all) (by decide)) (key_len 92)).symm
noncomputable def st0F (s1 s2 : List Nat) (i c : Nat) : List Nat := (shaM s2 (shaM s1 ([99, 104, 97, 105, 110] ++ intsF [i, c]))).take 16
theorem st0F_eq {s1 s2 : List Nat} (h1 : sI = s1) (h2 : sO = s2) (i c : Nat) (hi : i < 65536) (hc : c < 65536) : st0F s1 s2 i c = st0 sd5 i c := by
  have hx : ∀ x ∈ [i, c], x < 65536 := by intro x hx; simp at hx; rcases hx with rfl | rfl <;> assumption
  have hx2 : ∀ x ∈ [i, c], x ≤ 1000000 := fun x h => by have := hx x h; omega
  have hj : AllB (ints [i, c]) := by
    intro d hd
    unfold ints encL at hd
    rcases List.mem_append.1 hd with hd | hd
    · exact enc_lt _ (by simp) d hd
    · obtain ⟨x, hx, hd⟩ := List.mem_flatMap.1 hd
      obtain ⟨y, hy, rfl⟩ := List.mem_map.1 hx
      exact enc_lt _ (by have := hx2 y hy; omega) d hd
  have hjl : (ints [i, c]).length ≤ 27 := by
    have h := part_len_le enc 9 ([i, c].map fun (x : Nat) => (x : Int)) 2 (by intro x hx; obtain ⟨y, hy, rfl⟩ := List.mem_map.1 hx; have := hx2 y hy; exact (enc_len _ (by omega)).2) (by simp)
    have e : part enc ([i, c].map fun (x : Nat) => (x : Int)) 2 = ints [i, c] := part_all enc ([i, c].map fun (x : Nat) => (x : Int))
    rw [e] at h
    simpa using h
  unfold st0F st0 mac
  rw [intsF_eq _ (by simp) hx, ← h1, ← h2, shaM_eq (key_len 54) (xorL_all (key64_all sd5_all) (by decide)) (by simp; omega) (AllB.app (by unfold AllB; decide) hj) sI_eq,
    shaM_eq (key_len 92) (xorL_all (key64_all sd5_all) (by decide)) (by rw [sha_len]; decide) (sha_all _) sO_eq]
noncomputable def nxtF (i c t x : Nat) : List Nat := ofdF 11 [intsF [i, c, t], unp x]
theorem nxtF_eq (i c t x : Nat) (hi : i < 65536) (hc : c < 65536) (ht : t < 65536) : nxtF i c t x = nxt i c t (unp x) := by
  have hx : ∀ y ∈ [i, c, t], y < 65536 := by intro x hx; simp at hx; rcases hx with rfl | rfl | rfl <;> assumption
  have hx2 : ∀ x ∈ [i, c, t], x ≤ 1000000 := fun x h => by have := hx x h; omega
  unfold nxtF nxt
  rw [intsF_eq _ (by simp) hx]
  have hj : AllB (ints [i, c, t]) := by
    intro d hd
    unfold ints encL at hd
    rcases List.mem_append.1 hd with hd | hd
    · exact enc_lt _ (by simp) d hd
    · obtain ⟨x, hx, hd⟩ := List.mem_flatMap.1 hd
      obtain ⟨y, hy, rfl⟩ := List.mem_map.1 hx
      exact enc_lt _ (by have := hx2 y hy; omega) d hd
  have hjl : (ints [i, c, t]).length ≤ 36 := by
    have h := part_len_le enc 9 ([i, c, t].map fun (x : Nat) => (x : Int)) 3 (by intro x hx; obtain ⟨y, hy, rfl⟩ := List.mem_map.1 hx; have := hx2 y hy; exact (enc_len _ (by omega)).2) (by simp)
    have e : part enc ([i, c, t].map fun (x : Nat) => (x : Int)) 3 = ints [i, c, t] := part_all enc ([i, c, t].map fun (x : Nat) => (x : Int))
    rw [e] at h
    simpa using h
  refine ofdF_eq 11 (by decide) _ ?_ ?_
  · intro p hp; simp at hp; rcases hp with rfl | rfl
    · omega
    · rw [unp_len]; decide
  · intro p hp; simp at hp; rcases hp with rfl | rfl
    · exact hj
    · exact unp_all x
/-- A row of a table: the values of a chain at the heights 0 to 3. -/
noncomputable def chkR (s1 s2 : List Nat) (i c a b d e : Nat) : Bool := isN (st0F s1 s2 i c) a && (isN (nxtF i c 0 a) b && (isN (nxtF i c 1 b) d && isN (nxtF i c 2 d) e))
noncomputable def chkT (s1 s2 : List Nat) (i : Nat) : Nat → List (Nat × Nat × Nat × Nat) → Bool
  | _, [] => true
  | c, (a, b, d, e) :: r => chkR s1 s2 i c a b d e && chkT s1 s2 i (Nat.succ c) r
theorem chkR_ok {s1 s2 : List Nat} (h1 : sI = s1) (h2 : sO = s2) {i c a b d e : Nat} (hi : i < 65536) (hc : c < 65536) (h : chkR s1 s2 i c a b d e = true) :
    st0 sd5 i c = unp a ∧ nxt i c 0 (unp a) = unp b ∧ nxt i c 1 (unp b) = unp d ∧ nxt i c 2 (unp d) = unp e := by
  unfold chkR at h
  simp only [Bool.and_eq_true] at h
  obtain ⟨k1, k2, k3, k4⟩ := h
  exact ⟨isN_eq k1 (st0F_eq h1 h2 i c hi hc) (st0_len _ _ _) (st0_all _ _ _), isN_eq k2 (nxtF_eq i c 0 a hi hc (by decide)) (ofd_len _ _) (ofd_all _ _), isN_eq k3 (nxtF_eq i c 1 b hi hc (by decide)) (ofd_len _ _) (ofd_all _ _), isN_eq k4 (nxtF_eq i c 2 d hi hc (by decide)) (ofd_len _ _) (ofd_all _ _)⟩
/-- What a table says. -/
def RowOk (i c : Nat) (r : Nat × Nat × Nat × Nat) : Prop := st0 sd5 i c = unp r.1 ∧ nxt i c 0 (unp r.1) = unp r.2.1 ∧ nxt i c 1 (unp r.2.1) = unp r.2.2.1 ∧ nxt i c 2 (unp r.2.2.1) = unp r.2.2.2
theorem chkT_ok {s1 s2 : List Nat} (h1 : sI = s1) (h2 : sO = s2) {i : Nat} (hi : i < 65536) : ∀ (T : List (Nat × Nat × Nat × Nat)) (c0 : Nat), c0 + T.length < 65536 → chkT s1 s2 i c0 T = true → ∀ j r, T[j]? = some r → RowOk i (c0 + j) r
  | [], _, _, _, j, r, h => by simp at h
  | (a, b, d, e) :: T, c0, hl, hT, j, r, h => by
    rw [List.length_cons] at hl
    have hT' : (chkR s1 s2 i c0 a b d e && chkT s1 s2 i (Nat.succ c0) T) = true := hT
    rw [Bool.and_eq_true] at hT'
    cases j with
    | zero =>
      simp only [List.getElem?_cons_zero, Option.some.injEq] at h
      subst h
      exact chkR_ok h1 h2 hi (by omega) hT'.1
    | succ j =>
      rw [List.getElem?_cons_succ] at h
      have := chkT_ok h1 h2 hi T (c0 + 1) (by omega) hT'.2 j r h
      rwa [show c0 + 1 + j = c0 + (j + 1) by omega] at this
end Go.Proofs.YtbfoajfpnfkfnaaDoor
