import PyProof.Rows.All
import Wide.All
import OpenK.AllK
import Wide.FinOn
import KE.OsGo
import KE.OsArgs
import PySem.Challenge.RW_breathbound_s02_br_most
namespace My
open Kp128
theorem find_succ (p : Nat → Bool) (n : Nat) :
    (List.range (n + 1)).reverse.find? p = if p n = true then some n else (List.range n).reverse.find? p := by
  rw [List.range_succ, List.reverse_append, List.reverse_singleton, List.singleton_append, List.find?_cons]
  cases p n <;> rfl
theorem find_some (p : Nat → Bool) (k : Nat) (hk : p k = true) : ∀ n : Nat, k < n → (∀ j, k < j → j < n → p j = false) →
    (List.range n).reverse.find? p = some k
  | 0, h, _ => absurd h (Nat.not_lt_zero _)
  | n + 1, h, hj => by
    rw [find_succ]
    by_cases e : k = n
    · subst e; rw [if_pos hk]
    · have hn : k < n := by omega
      have := hj n hn (Nat.lt_succ_self _)
      rw [this, if_neg (by simp)]
      exact find_some p k hk n hn fun j h1 h2 => hj j h1 (Nat.lt_succ_of_lt h2)
theorem find_none (p : Nat → Bool) : ∀ n : Nat, (∀ j, j < n → p j = false) → (List.range n).reverse.find? p = none
  | 0, _ => rfl
  | n + 1, hj => by
    rw [find_succ, hj n (Nat.lt_succ_self _), if_neg (by simp)]
    exact find_none p n fun j h => hj j (Nat.lt_succ_of_lt h)
/-- g is the greatest that may be -/
theorem most_is {m : Make} {x f g : Int} (h1 : 1 ≤ g) (h2 : g ≤ m.most) (hg : may m x f g = true)
    (hn : ∀ k, g < k → k ≤ m.most → may m x f k = false) : Kp128.most m x f = g := by
  have e : (((g - 1).toNat : Nat) : Int) = g - 1 := Int.toNat_of_nonneg (by omega)
  have e1 : (((g - 1).toNat : Nat) : Int) + 1 = g := by omega
  have hs := find_some (fun (k : Nat) => may m x f ((k : Int) + 1)) (g - 1).toNat (by show may m x f _ = true; rw [e1]; exact hg)
    m.most.toNat (by omega) (fun j a b => hn _ (by omega) (by omega))
  unfold Kp128.most
  rw [hs]
  exact e1
/-- none may be -/
theorem most_none {m : Make} {x f : Int} (hn : ∀ k, 1 ≤ k → k ≤ m.most → may m x f k = false) : Kp128.most m x f = 0 := by
  have hs := find_none (fun (k : Nat) => may m x f ((k : Int) + 1)) m.most.toNat (fun j a => hn _ (by omega) (by omega))
  unfold Kp128.most
  rw [hs]
theorem may_iff {m : Make} {x f g : Int} : may m x f g = true ↔ next m x f g ≤ U * m.limit ∧ behind m x f g ≤ U * m.limit := by
  unfold may
  rw [Bool.and_eq_true, decide_eq_true_eq, decide_eq_true_eq]
theorem next_mono {m : Make} {x f g k : Int} (hn : 0 ≤ m.narrow) (h : g ≤ k) : next m x f g ≤ next m x f k := by
  unfold next
  have a : m.narrow * g ≤ m.narrow * k := Int.mul_le_mul_of_nonneg_left h hn
  have b : m.narrow * max 0 (g - f) ≤ m.narrow * max 0 (k - f) := Int.mul_le_mul_of_nonneg_left (by omega) hn
  omega
theorem behind_mono {m : Make} {x f g k : Int} (hn : 0 ≤ m.stiff) (h : g ≤ k) : behind m x f g ≤ behind m x f k := by
  unfold behind
  have a : m.stiff * (f + g) ≤ m.stiff * (f + k) := Int.mul_le_mul_of_nonneg_left (by omega) hn
  omega
theorem may_down {m : Make} {x f g k : Int} (hn : 0 ≤ m.narrow) (hs : 0 ≤ m.stiff) (h : g ≤ k) (hk : may m x f k = true) : may m x f g = true := by
  rw [may_iff] at hk ⊢
  exact ⟨Int.le_trans (next_mono hn h) hk.1, Int.le_trans (behind_mono hs h) hk.2⟩
theorem may_up {m : Make} {x f g k : Int} (hn : 0 ≤ m.narrow) (hs : 0 ≤ m.stiff) (h : g ≤ k) (hg : may m x f g = false) : may m x f k = false := by
  cases e : may m x f k with
  | false => rfl
  | true => rw [may_down hn hs h e] at hg; cases hg
/-- what a search by halves ends with: lo may be (or is 0), hi may not (or is beyond most), nothing between -/
theorem most_between {m : Make} {x f lo : Int} (hn : 0 ≤ m.narrow) (hs : 0 ≤ m.stiff) (h0 : 0 ≤ lo) (h1 : lo ≤ m.most)
    (hl : lo = 0 ∨ may m x f lo = true) (hh : lo = m.most ∨ may m x f (lo + 1) = false) : Kp128.most m x f = lo := by
  have up : ∀ k, lo < k → k ≤ m.most → may m x f k = false := fun k a b => by
    rcases hh with e | e
    · omega
    · exact may_up hn hs (by omega) e
  by_cases z : lo = 0
  · subst z
    exact most_none fun k a b => up k (by omega) b
  · exact most_is (by omega) h1 (hl.resolve_left z) up
end My
open PySem PySem.W PyProof.Rows
set_option Elab.async false
namespace My
section
open PySem.Spec
variable {Q : Value → Shared → Prop} {E : Value → Shared → Prop} {s : Shared} {prog : Program} {A : Around} {w : World}
theorem five_ok (a b c d e : Value) : argsOk "max" ⟨[a, b, c, d, e], []⟩ := by
  unfold argsOk
  kernel_rfl
/-- max of five values: a walk over the tuple of them -/
theorem max_walk {a b c d e : Value}
    (h : wpAny (model prog w) A.in1 (pyIter (.ref s.heap.objs.size))
      (fun it r => ∃ I fp wr n P St bt, it = .ref I ∧ Walks prog w A.in1 I fp wr n P St ∧ St 0 r.heap ∧
        (∀ y ∈ fp, y < r.heap.objs.size) ∧ 0 < n ∧ CmpOf prog w A.in1 .Gt P bt ∧
        ∀ v h' tk, P (argBest bt (n - 1)) v →
          (∀ y o, y ∉ wr → r.heap.get? y = some o → h'.get? y = some o) → Q v { r with heap := h', toks := tk }) E
      { s with heap := s.heap.push { cls := .type "tuple", data := .seq #[a, b, c, d, e] } }) :
    wpAny (model prog w) A (call (.builtin "max") [a, b, c, d, e]) Q E s := by
  have nm : (toString "max" ++ toString ".loop" : String) = "max.loop" := by decide
  refine call_function_tree PySem.F.kind_max PySem.F.plain_max PySem.F.entry_max (five_ok a b c d e) ?_
  show wpAny _ A.in1 (Builtin.Builtins.bindParams "max" ["key", "default"] 0 ⟨[], []⟩ >>= _) _ E s
  refine wpAny_bind (wpAny_of_eq (a := [none, none]) rfl ?_)
  show wpAny _ A.in1 (newTuple [a, b, c, d, e] >>= _) _ E s
  refine wpAny_bind (wpAny_newObj_type ?_)
  refine wpAny_bind (wpAny_mono h (fun it r z => ?_) fun _ _ y => y)
  obtain ⟨I, fp, wr, n, P, St, bt, rfl, W, st, lt, n0, cm, q⟩ := z
  refine wpAny_bind (wpAny_newObj_type ?_)
  rw [nm]
  have fresh : r.heap.objs.size ∉ fp := fun y => Nat.lt_irrefl _ (lt _ y)
  refine wpAny_pure ⟨plainId_quiet PySem.F.plain_max_loop _, ?_⟩
  refine codeAny_max_loop_first W bt cm r.heap.objs.size fresh n0 ?_ (Heap.get?_push_size _ rfl) fun v h' tk p k => ?_
  · exact W.frame _ _ _ st fun y _ o k => Heap.get?_push_of_some _ k
  · exact q v h' tk p fun y o ny eo => k y o ny (Nat.ne_of_lt (Heap.lt_size eo)) (Heap.get?_push_of_some _ eo)
theorem num5 {a b c d e : Int} {t1 t2 t3 t4 t5 : Tok} : ∀ i : Nat, i ≤ 4 →
    (numAt #[(a, t1), (b, t2), (c, t3), (d, t4), (e, t5)] i = a ∨ numAt #[(a, t1), (b, t2), (c, t3), (d, t4), (e, t5)] i = b ∨
     numAt #[(a, t1), (b, t2), (c, t3), (d, t4), (e, t5)] i = c ∨ numAt #[(a, t1), (b, t2), (c, t3), (d, t4), (e, t5)] i = d ∨
     numAt #[(a, t1), (b, t2), (c, t3), (d, t4), (e, t5)] i = e)
  | 0, _ => .inl rfl
  | 1, _ => .inr (.inl rfl)
  | 2, _ => .inr (.inr (.inl rfl))
  | 3, _ => .inr (.inr (.inr (.inl rfl)))
  | 4, _ => .inr (.inr (.inr (.inr rfl)))
  | n + 5, h => absurd h (by omega)
theorem max_five {a b c d e : Int} {t1 t2 t3 t4 t5 : Tok} {h0 : Heap} {L : Addr} {m : Str → Option Value} {news : List (Addr × Obj)}
    (hh : A.handled = none) (F : Fr h0 L s.heap m) (N : News h0 L s.heap news)
    (h : ∀ (h' : Heap) (M : Int) (t : Tok) (tk : Nat), Fr h0 L h' m → News h0 L h' news → a ≤ M → b ≤ M → c ≤ M → d ≤ M → e ≤ M →
      (M = a ∨ M = b ∨ M = c ∨ M = d ∨ M = e) → Q (.int M t) { s with heap := h', toks := tk }) :
    wpAny (model prog w) A (call (.builtin "max") [.int a t1, .int b t2, .int c t3, .int d t4, .int e t5]) Q E s := by
  have hT : (s.heap.push { cls := .type "tuple", data := .seq #[.int a t1, .int b t2, .int c t3, .int d t4, .int e t5] }).IsTuple
      s.heap.objs.size (intItems #[(a, t1), (b, t2), (c, t3), (d, t4), (e, t5)]) :=
    ⟨_, Heap.get?_push_size _ rfl, rfl, 0, by simp [intItems]⟩
  have sz : (s.heap.push { cls := .type "tuple", data := .seq #[.int a t1, .int b t2, .int c t3, .int d t4, .int e t5] }).objs.size = s.heap.objs.size + 1 :=
    Heap.size_push ..
  refine max_walk (wpAny_pyIter_tuple hT ?_)
  have ne : s.heap.objs.size ≠ (s.heap.push { cls := .type "tuple", data := .seq #[.int a t1, .int b t2, .int c t3, .int d t4, .int e t5] }).objs.size := by
    rw [sz]
    omega
  refine ⟨_, [_, s.heap.objs.size], [_], _, _, _, _, rfl, Walks.tuple (A := A.in1) hh _ s.heap.objs.size ne (intItems #[(a, t1), (b, t2), (c, t3), (d, t4), (e, t5)]),
    ⟨⟨_, Heap.get?_push_size _ rfl, rfl, rfl⟩, hT.push _⟩, ?_, by simp [intItems],
    CmpOf.ints_gt (numAt #[(a, t1), (b, t2), (c, t3), (d, t4), (e, t5)]) (fun _ _ => intItems_at), ?_⟩
  · intro y hy
    show y < ((s.heap.push _).push _).objs.size
    rw [Heap.size_push, sz]
    rw [List.mem_cons, List.mem_singleton, sz] at hy
    rcases hy with hy | hy
    · rw [hy]
      exact Nat.lt_succ_self _
    · rw [hy]
      exact Nat.lt_succ_of_lt (Nat.lt_succ_self _)
  · intro v h' tk p k
    have old : ∀ y o, s.heap.get? y = some o → h'.get? y = some o := fun y o eo => by
      refine k y o (fun hm => ?_) (Heap.get?_push_of_some _ (Heap.get?_push_of_some _ eo))
      have l1 := Heap.lt_size eo
      rw [List.mem_singleton, sz] at hm
      rw [hm] at l1
      exact Nat.lt_irrefl _ (Nat.lt_of_succ_lt l1)
    have s5 : (intItems #[(a, t1), (b, t2), (c, t3), (d, t4), (e, t5)]).size - 1 = 4 := by simp [intItems]
    rw [s5] at p
    obtain ⟨t, rfl⟩ := intItems_at p
    obtain ⟨le, all⟩ := argBest_gt (numAt #[(a, t1), (b, t2), (c, t3), (d, t4), (e, t5)]) 4
    exact h h' _ t tk (F.grownK old) (N.grown old) (all 0 (by omega)) (all 1 (by omega)) (all 2 (by omega)) (all 3 (by omega)) (all 4 (by omega)) (num5 _ le)
end

def rightF (near cough limit pull stiff narrow most volume in_most out_least next_most longer : Int) : Bool :=
  decide (near ≤ 1048576 ∧ cough ≤ 1048576 ∧ limit ≤ 1048576 ∧ pull ≤ 1048576 ∧ stiff ≤ 1048576 ∧ narrow ≤ 16777216 ∧ 1 ≤ most ∧ most ≤ 65535 ∧
      1 ≤ volume ∧ volume ≤ 16777216 ∧ 1 ≤ in_most ∧ in_most ≤ 65535 ∧ 1 ≤ out_least ∧ out_least ≤ next_most ∧ next_most ≤ 65535 ∧ 1 ≤ longer ∧ longer ≤ 65535)
def mayF (near cough limit stiff narrow x f g : Int) : Bool :=
  decide ((if 65536 * (x + near + 2 * cough) + stiff * (f + g) > 65536 * (x + near + cough) + (if (stiff * f + narrow * if 0 > g - f then 0 else g - f) > narrow * g then stiff * f + narrow * if 0 > g - f then 0 else g - f else narrow * g) then 65536 * (x + near + 2 * cough) + stiff * (f + g) else 65536 * (x + near + cough) + (if (stiff * f + narrow * if 0 > g - f then 0 else g - f) > narrow * g then stiff * f + narrow * if 0 > g - f then 0 else g - f else narrow * g)) ≤ 65536 * limit)
theorem both_le {a b c : Int} : decide ((if b > a then b else a) ≤ c) = (decide (a ≤ c) && decide (b ≤ c)) := by
  by_cases h : b > a
  · rw [if_pos h]
    by_cases k : b ≤ c
    · rw [decide_eq_true k, decide_eq_true (show a ≤ c by omega)]; rfl
    · rw [decide_eq_false k, Bool.and_false]
  · rw [if_neg h]
    by_cases k : a ≤ c
    · rw [decide_eq_true k, decide_eq_true (show b ≤ c by omega)]; rfl
    · rw [decide_eq_false k, Bool.false_and]
theorem may_is {near cough limit pull stiff narrow most volume in_most out_least next_most longer x f g : Int} :
    mayF near cough limit stiff narrow x f g = Kp128.may ⟨near, cough, limit, pull, stiff, narrow, most, volume, in_most, out_least, next_most, longer⟩ x f g := by
  have e1 : (if 0 > g - f then 0 else g - f) = max 0 (g - f) := by omega
  have e2 : (if stiff * f + narrow * max 0 (g - f) > narrow * g then stiff * f + narrow * max 0 (g - f) else narrow * g) = max (narrow * g) (stiff * f + narrow * max 0 (g - f)) := by
    generalize stiff * f + narrow * max 0 (g - f) = u
    generalize narrow * g = v
    omega
  unfold mayF
  rw [both_le, e1, e2]
  rfl
theorem right_is {near cough limit pull stiff narrow most volume in_most out_least next_most longer : Int} :
    Kp128.goodMake ⟨near, cough, limit, pull, stiff, narrow, most, volume, in_most, out_least, next_most, longer⟩ = rightF near cough limit pull stiff narrow most volume in_most out_least next_most longer := rfl
structure Inv (near cough limit stiff narrow most x f low high : Int) : Prop where
  lo : low = 0 ∨ mayF near cough limit stiff narrow x f low = true
  hi : high = most + 1 ∨ mayF near cough limit stiff narrow x f high = false
theorem inv0 {near cough limit stiff narrow most x f : Int} : Inv near cough limit stiff narrow most x f 0 (most + 1) := ⟨.inl rfl, .inl rfl⟩
theorem inv_lo {near cough limit stiff narrow most x f low high g : Int} (h : Inv near cough limit stiff narrow most x f low high) (e : mayF near cough limit stiff narrow x f g = true) : Inv near cough limit stiff narrow most x f g high := ⟨.inr e, h.hi⟩
theorem inv_hi {near cough limit stiff narrow most x f low high g : Int} (h : Inv near cough limit stiff narrow most x f low high) (e : mayF near cough limit stiff narrow x f g = false) : Inv near cough limit stiff narrow most x f low g := ⟨h.lo, .inr e⟩
section
variable {prog : Program} {w : World} {A : Around} {E : Value → Shared → Prop} {s : Shared} {n : Int} {t u : Tok} {Q : Value → Shared → Prop}
/-- half of n, rounded down, as a letter with its two bounds -/
theorem half (h : ∀ m : Int, 2 * m ≤ n → n ≤ 2 * m + 1 → Q (.int m s.toks) { s with toks := s.toks + 1 }) :
    wpAny (model prog w) A (binaryOp .FloorDiv (.int n t) (.int 2 u)) Q E s := by
  have e := Int.fdiv_eq_ediv_of_nonneg n (show (0 : Int) ≤ 2 by decide)
  exact floordiv_int (by omega) (h _ (by omega) (by omega)) (.inl (PyProof.noPylong_small (by omega)))
end
theorem said : PySem.Challenge.rw_breathbound_s02_br_most.wellSaid = true := by decide +kernel
theorem bnd {w1 w2 w3 w4 w5 w6 w7 w8 w9 w10 w11 w12 w13 w14 : Int} (hpre : OpenSpec.pre PySem.Challenge.rw_breathbound_s02_br_most [.int w1, .int w2, .int w3, .int w4, .int w5, .int w6, .int w7, .int w8, .int w9, .int w10, .int w11, .int w12, .int w13, .int w14] = true) :
    0 ≤ w1 ∧ 0 ≤ w2 ∧ 0 ≤ w3 ∧ 0 ≤ w5 ∧ 0 ≤ w6 ∧ -9223372036854775808 ≤ w13 ∧ w13 ≤ 9223372036854775807 ∧ 0 ≤ w14 := by
  obtain ⟨a, w, q, e⟩ := os_pre said hpre
  obtain ⟨a1, a2, a3, a4, a5, a6, a7, a8, a9, a10, a11, a12, a13, a14, u⟩ := a
  have r1 := (List.cons.inj e).2
  have r2 := (List.cons.inj r1).2
  have r3 := (List.cons.inj r2).2
  have r4 := (List.cons.inj r3).2
  have r5 := (List.cons.inj r4).2
  have r6 := (List.cons.inj r5).2
  have r7 := (List.cons.inj r6).2
  have r8 := (List.cons.inj r7).2
  have r9 := (List.cons.inj r8).2
  have r10 := (List.cons.inj r9).2
  have r11 := (List.cons.inj r10).2
  have r12 := (List.cons.inj r11).2
  have r13 := (List.cons.inj r12).2
  have e1 : _ = a1 := os_j_int (List.cons.inj e).1
  have e2 : _ = a2 := os_j_int (List.cons.inj r1).1
  have e3 : _ = a3 := os_j_int (List.cons.inj r2).1
  have e4 : _ = a4 := os_j_int (List.cons.inj r3).1
  have e5 : _ = a5 := os_j_int (List.cons.inj r4).1
  have e6 : _ = a6 := os_j_int (List.cons.inj r5).1
  have e7 : _ = a7 := os_j_int (List.cons.inj r6).1
  have e8 : _ = a8 := os_j_int (List.cons.inj r7).1
  have e9 : _ = a9 := os_j_int (List.cons.inj r8).1
  have e10 : _ = a10 := os_j_int (List.cons.inj r9).1
  have e11 : _ = a11 := os_j_int (List.cons.inj r10).1
  have e12 : _ = a12 := os_j_int (List.cons.inj r11).1
  have e13 : _ = a13 := os_j_int (List.cons.inj r12).1
  have e14 : _ = a14 := os_j_int (List.cons.inj r13).1
  clear r1 r2 r3 r4 r5 r6 r7 r8 r9 r10 r11 r12 r13 e
  subst e1 e2 e3 e4 e5 e6 e7 e8 e9 e10 e11 e12 e13 e14
  have z : (Codec.inInt 0 9223372036854775807 w1 && (Codec.inInt 0 9223372036854775807 w2 && (Codec.inInt 0 9223372036854775807 w3 && (Codec.inInt 0 9223372036854775807 w4 &&
    (Codec.inInt 0 9223372036854775807 w5 && (Codec.inInt 0 9223372036854775807 w6 && (Codec.inInt 0 9223372036854775807 w7 && (Codec.inInt 0 9223372036854775807 w8 &&
    (Codec.inInt 0 9223372036854775807 w9 && (Codec.inInt 0 9223372036854775807 w10 && (Codec.inInt 0 9223372036854775807 w11 && (Codec.inInt 0 9223372036854775807 w12 &&
    (Codec.inInt (-9223372036854775808) 9223372036854775807 w13 && (Codec.inInt 0 9223372036854775807 w14 && true)))))))))))))) = true := w
  unfold Codec.inInt at z
  simp only [Bool.and_eq_true, decide_eq_true_eq] at z
  omega
theorem start {w1 w2 w3 w4 w5 w6 w7 w8 w9 w10 w11 w12 w13 w14 : Int} (hpre : OpenSpec.pre PySem.Challenge.rw_breathbound_s02_br_most [.int w1, .int w2, .int w3, .int w4, .int w5, .int w6, .int w7, .int w8, .int w9, .int w10, .int w11, .int w12, .int w13, .int w14] = true) (h : rightF w1 w2 w3 w4 w5 w6 w7 w8 w9 w10 w11 w12 = true) (hf : w14 ≤ w7) :
    0 ≤ (0 : Int) ∧ 0 < w7 + 1 ∧ w7 + 1 ≤ w7 + 1 ∧ w7 ≤ 65535 ∧ (0 ≤ w1 ∧ w1 ≤ 1048576 ∧ 0 ≤ w2 ∧ w2 ≤ 1048576 ∧ 0 ≤ w3 ∧ w3 ≤ 1048576) ∧ (0 ≤ w6 ∧ w6 ≤ 16777216 ∧ 0 ≤ w5 ∧ w5 ≤ 1048576 ∧ 0 ≤ w14 ∧ w14 ≤ w7) ∧
      (-9223372036854775808 ≤ w13 ∧ w13 ≤ 9223372036854775807) ∧ Inv w1 w2 w3 w5 w6 w7 w13 w14 0 (w7 + 1) := by
  have b := bnd hpre
  have c := of_decide_eq_true h
  exact ⟨by omega, by omega, by omega, by omega, by omega, by omega, by omega, inv0⟩
theorem due {w1 w2 w3 w4 w5 w6 w7 w8 w9 w10 w11 w12 w13 w14 : Int} : PyKp128.br_most w1 w2 w3 w4 w5 w6 w7 w8 w9 w10 w11 w12 w13 w14 = [0, if Kp128.goodMake ⟨w1, w2, w3, w4, w5, w6, w7, w8, w9, w10, w11, w12⟩ = false ∨ w7 < w14 then -22 else Kp128.most ⟨w1, w2, w3, w4, w5, w6, w7, w8, w9, w10, w11, w12⟩ w13 w14] := rfl
theorem shut {w1 w2 w3 w4 w5 w6 w7 w8 w9 w10 w11 w12 w13 w14 v : Int} (hpre : OpenSpec.pre PySem.Challenge.rw_breathbound_s02_br_most [.int w1, .int w2, .int w3, .int w4, .int w5, .int w6, .int w7, .int w8, .int w9, .int w10, .int w11, .int w12, .int w13, .int w14] = true)
    (h : (if Kp128.goodMake ⟨w1, w2, w3, w4, w5, w6, w7, w8, w9, w10, w11, w12⟩ = false ∨ w7 < w14 then -22 else Kp128.most ⟨w1, w2, w3, w4, w5, w6, w7, w8, w9, w10, w11, w12⟩ w13 w14) = v) :
    OpenSpec.post PySem.Challenge.rw_breathbound_s02_br_most [.int w1, .int w2, .int w3, .int w4, .int w5, .int w6, .int w7, .int w8, .int w9, .int w10, .int w11, .int w12, .int w13, .int w14] (ofPy (PyData.list [PyData.int 0, PyData.int v])) = true := by
  os_open said with a w q e
  obtain ⟨a1, a2, a3, a4, a5, a6, a7, a8, a9, a10, a11, a12, a13, a14, u⟩ := a
  have r1 := (List.cons.inj e).2
  have r2 := (List.cons.inj r1).2
  have r3 := (List.cons.inj r2).2
  have r4 := (List.cons.inj r3).2
  have r5 := (List.cons.inj r4).2
  have r6 := (List.cons.inj r5).2
  have r7 := (List.cons.inj r6).2
  have r8 := (List.cons.inj r7).2
  have r9 := (List.cons.inj r8).2
  have r10 := (List.cons.inj r9).2
  have r11 := (List.cons.inj r10).2
  have r12 := (List.cons.inj r11).2
  have r13 := (List.cons.inj r12).2
  have e1 : _ = a1 := os_j_int (List.cons.inj e).1
  have e2 : _ = a2 := os_j_int (List.cons.inj r1).1
  have e3 : _ = a3 := os_j_int (List.cons.inj r2).1
  have e4 : _ = a4 := os_j_int (List.cons.inj r3).1
  have e5 : _ = a5 := os_j_int (List.cons.inj r4).1
  have e6 : _ = a6 := os_j_int (List.cons.inj r5).1
  have e7 : _ = a7 := os_j_int (List.cons.inj r6).1
  have e8 : _ = a8 := os_j_int (List.cons.inj r7).1
  have e9 : _ = a9 := os_j_int (List.cons.inj r8).1
  have e10 : _ = a10 := os_j_int (List.cons.inj r9).1
  have e11 : _ = a11 := os_j_int (List.cons.inj r10).1
  have e12 : _ = a12 := os_j_int (List.cons.inj r11).1
  have e13 : _ = a13 := os_j_int (List.cons.inj r12).1
  have e14 : _ = a14 := os_j_int (List.cons.inj r13).1
  clear r1 r2 r3 r4 r5 r6 r7 r8 r9 r10 r11 r12 r13 e
  subst e1 e2 e3 e4 e5 e6 e7 e8 e9 e10 e11 e12 e13 e14
  show _ = WData.list ((PyKp128.br_most _ _ _ _ _ _ _ _ _ _ _ _ _ _).map WData.int)
  rw [due, h]
  simp [ofPy, ofPys]
theorem shut_bad {w1 w2 w3 w4 w5 w6 w7 w8 w9 w10 w11 w12 w13 w14 : Int} (hpre : OpenSpec.pre PySem.Challenge.rw_breathbound_s02_br_most [.int w1, .int w2, .int w3, .int w4, .int w5, .int w6, .int w7, .int w8, .int w9, .int w10, .int w11, .int w12, .int w13, .int w14] = true) (h : rightF w1 w2 w3 w4 w5 w6 w7 w8 w9 w10 w11 w12 = false) :
    OpenSpec.post PySem.Challenge.rw_breathbound_s02_br_most [.int w1, .int w2, .int w3, .int w4, .int w5, .int w6, .int w7, .int w8, .int w9, .int w10, .int w11, .int w12, .int w13, .int w14] (ofPy (PyData.list [PyData.int 0, PyData.int (-22)])) = true :=
  shut hpre (if_pos (.inl (right_is.trans h)))
theorem shut_far {w1 w2 w3 w4 w5 w6 w7 w8 w9 w10 w11 w12 w13 w14 : Int} (hpre : OpenSpec.pre PySem.Challenge.rw_breathbound_s02_br_most [.int w1, .int w2, .int w3, .int w4, .int w5, .int w6, .int w7, .int w8, .int w9, .int w10, .int w11, .int w12, .int w13, .int w14] = true) (h : w7 < w14) :
    OpenSpec.post PySem.Challenge.rw_breathbound_s02_br_most [.int w1, .int w2, .int w3, .int w4, .int w5, .int w6, .int w7, .int w8, .int w9, .int w10, .int w11, .int w12, .int w13, .int w14] (ofPy (PyData.list [PyData.int 0, PyData.int (-22)])) = true :=
  shut hpre (if_pos (.inr h))
theorem shut_val {w1 w2 w3 w4 w5 w6 w7 w8 w9 w10 w11 w12 w13 w14 v u : Int} (hpre : OpenSpec.pre PySem.Challenge.rw_breathbound_s02_br_most [.int w1, .int w2, .int w3, .int w4, .int w5, .int w6, .int w7, .int w8, .int w9, .int w10, .int w11, .int w12, .int w13, .int w14] = true) (hr : rightF w1 w2 w3 w4 w5 w6 w7 w8 w9 w10 w11 w12 = true) (hf : ¬ w7 < w14)
    (i : Inv w1 w2 w3 w5 w6 w7 w13 w14 v u) (e : u = v + 1) (h0 : 0 ≤ v) (h1 : v ≤ w7) :
    OpenSpec.post PySem.Challenge.rw_breathbound_s02_br_most [.int w1, .int w2, .int w3, .int w4, .int w5, .int w6, .int w7, .int w8, .int w9, .int w10, .int w11, .int w12, .int w13, .int w14] (ofPy (PyData.list [PyData.int 0, PyData.int v])) = true := by
  subst e
  have b := bnd hpre
  refine shut hpre ?_
  rw [if_neg (by rw [right_is, hr]; exact fun z => z.elim (fun y => nomatch y) hf)]
  exact most_between (m := ⟨w1, w2, w3, w4, w5, w6, w7, w8, w9, w10, w11, w12⟩) (show 0 ≤ w6 by omega) (show 0 ≤ w5 by omega) h0 h1 (i.lo.imp id fun y => may_is.symm.trans y) (i.hi.imp (fun y => show v = w7 by omega) fun y => may_is.symm.trans y)
end My
local macro_rules | `(tactic| walk_at "call builtin:max") => `(tactic| (k_here; (with_reducible show wpAny _ _ (call (Value.builtin _) [Value.int _ _, Value.int _ _, Value.int _ _, Value.int _ _, Value.int _ _]) _ _ _); (with_unfolding_all refine' My.max_five ?k1 ?k2 ?k3 ?_; (case k1 => with_unfolding_all rfl); (case k2 => k_asm); (case k3 => k_asm); k_whole); intro h' M' t' k' F' N' b1 b2 b3 b4 b5 b6; (try k_sweep)))
local macro_rules | `(tactic| walk_at "compareChain") => `(tactic| refine chain_link ?_)
local macro_rules | `(tactic| walk_at "binaryOp FloorDiv int int") => `(tactic| (k_here; (with_reducible refine' My.half ?_); intro m' hm0 hm1))
set_option maxRecDepth 100000 in
set_option maxHeartbeats 8000000 in
theorem PySem.Challenge.cw_breathbound_s02_br_most_holds : PySem.Challenge.rw_breathbound_s02_br_most.Holds := by
  k_with "call ref" => k_call_by "make_is_right" My.rightF
  k_with "call ref" => k_call_by "may_be_blown" My.mayF (fun (near cough limit stiff narrow x f g : Int) => (0 ≤ near ∧ near ≤ 1048576 ∧ 0 ≤ cough ∧ cough ≤ 1048576 ∧ 0 ≤ limit ∧ limit ≤ 1048576) ∧ (0 ≤ narrow ∧ narrow ≤ 16777216 ∧ 0 ≤ stiff ∧ stiff ≤ 1048576 ∧ 0 ≤ f ∧ f ≤ 65535) ∧ (-9223372036854775808 ≤ x ∧ x ≤ 9223372036854775807) ∧ 0 ≤ g ∧ g ≤ 65535)
  k_with "tree" => first | (unfold My.rightF; first | (apply decide_eq_decide.mpr; omega) | exact (decide_eq_false (by omega)).symm | exact (decide_eq_true (by omega)).symm) | (unfold My.mayF; rfl)
  k_with "state" => first | exact My.start (by assumption) (by assumption) (by omega) | (refine ⟨by omega, by omega, by omega, by omega, by omega, by omega, by omega, ?_⟩; first | exact My.inv_lo (by assumption) (by assumption) | exact My.inv_hi (by assumption) (by assumption))
  k_with "exec While Compare cons nil" => k_while_given ["near", "cough", "limit", "stiff", "narrow", "most", "x", "f"] (fun near cough limit stiff narrow most x f _ may beyond => 0 ≤ may ∧ may < beyond ∧ beyond ≤ most + 1 ∧ most ≤ 65535 ∧ (0 ≤ near ∧ near ≤ 1048576 ∧ 0 ≤ cough ∧ cough ≤ 1048576 ∧ 0 ≤ limit ∧ limit ≤ 1048576) ∧ (0 ≤ narrow ∧ narrow ≤ 16777216 ∧ 0 ≤ stiff ∧ stiff ≤ 1048576 ∧ 0 ≤ f ∧ f ≤ most) ∧ (-9223372036854775808 ≤ x ∧ x ≤ 9223372036854775807) ∧ My.Inv near cough limit stiff narrow most x f may beyond) (fun near cough limit stiff narrow most x f _ may beyond => (beyond - may).toNat) "may" "beyond"
  open_ks with [.int 0, .int 0, .int 0, .int 0, .int 0, .int 0, .int 0, .int 0, .int 0, .int 0, .int 0, .int 0, .int 0, .int 0]
  all_goals first | exact My.shut_bad hpre (by assumption) | exact My.shut_far hpre (by omega) | exact My.shut_val hpre (by assumption) (by omega) (by assumption) (by omega) (by omega) (by omega)
#print axioms PySem.Challenge.cw_breathbound_s02_br_most_holds
