import PyProof.Rows.All
import Wide.All
import OpenK.AllK
import Wide.FinOn
import KE.OsGo
import KE.OsArgs
import PySem.Challenge.RW_breathbound_s01_br_right
open PySem PySem.W PyProof.Rows
set_option Elab.async false
namespace My
section
open PySem.Spec
variable {Q : Value → Shared → Prop} {E : Value → Shared → Prop} {s : Shared} {prog : Program} {A : Around} {w : World}
theorem five_ok (a b c d e : Value) : argsOk "max" ⟨[a, b, c, d, e], []⟩ := by
  unfold argsOk
  kernel_rfl
/-- max of five values: a walk over the tuple of them -/
theorem max_walk {a b c d e : Value}
    (h : wpAny (model prog w) A.in1 (pyIter (.ref s.heap.objs.size))
      (fun it r => ∃ I fp wr n P St bt, it = .ref I ∧ Walks prog w A.in1 I fp wr n P St ∧ St 0 r.heap ∧
        (∀ y ∈ fp, y < r.heap.objs.size) ∧ 0 < n ∧ CmpOf prog w A.in1 .Gt P bt ∧
        ∀ v h' tk, P (argBest bt (n - 1)) v →
          (∀ y o, y ∉ wr → r.heap.get? y = some o → h'.get? y = some o) → Q v { r with heap := h', toks := tk }) E
      { s with heap := s.heap.push { cls := .type "tuple", data := .seq #[a, b, c, d, e] } }) :
    wpAny (model prog w) A (call (.builtin "max") [a, b, c, d, e]) Q E s := by
  have nm : (toString "max" ++ toString ".loop" : String) = "max.loop" := by decide
  refine call_function_tree PySem.F.kind_max PySem.F.plain_max PySem.F.entry_max (five_ok a b c d e) ?_
  show wpAny _ A.in1 (Builtin.Builtins.bindParams "max" ["key", "default"] 0 ⟨[], []⟩ >>= _) _ E s
  refine wpAny_bind (wpAny_of_eq (a := [none, none]) rfl ?_)
  show wpAny _ A.in1 (newTuple [a, b, c, d, e] >>= _) _ E s
  refine wpAny_bind (wpAny_newObj_type ?_)
  refine wpAny_bind (wpAny_mono h (fun it r z => ?_) fun _ _ y => y)
  obtain ⟨I, fp, wr, n, P, St, bt, rfl, W, st, lt, n0, cm, q⟩ := z
  refine wpAny_bind (wpAny_newObj_type ?_)
  rw [nm]
  have fresh : r.heap.objs.size ∉ fp := fun y => Nat.lt_irrefl _ (lt _ y)
  refine wpAny_pure ⟨plainId_quiet PySem.F.plain_max_loop _, ?_⟩
  refine codeAny_max_loop_first W bt cm r.heap.objs.size fresh n0 ?_ (Heap.get?_push_size _ rfl) fun v h' tk p k => ?_
  · exact W.frame _ _ _ st fun y _ o k => Heap.get?_push_of_some _ k
  · exact q v h' tk p fun y o ny eo => k y o ny (Nat.ne_of_lt (Heap.lt_size eo)) (Heap.get?_push_of_some _ eo)
theorem num5 {a b c d e : Int} {t1 t2 t3 t4 t5 : Tok} : ∀ i : Nat, i ≤ 4 →
    (numAt #[(a, t1), (b, t2), (c, t3), (d, t4), (e, t5)] i = a ∨ numAt #[(a, t1), (b, t2), (c, t3), (d, t4), (e, t5)] i = b ∨
     numAt #[(a, t1), (b, t2), (c, t3), (d, t4), (e, t5)] i = c ∨ numAt #[(a, t1), (b, t2), (c, t3), (d, t4), (e, t5)] i = d ∨
     numAt #[(a, t1), (b, t2), (c, t3), (d, t4), (e, t5)] i = e)
  | 0, _ => .inl rfl
  | 1, _ => .inr (.inl rfl)
  | 2, _ => .inr (.inr (.inl rfl))
  | 3, _ => .inr (.inr (.inr (.inl rfl)))
  | 4, _ => .inr (.inr (.inr (.inr rfl)))
  | n + 5, h => absurd h (by omega)
theorem max_five {a b c d e : Int} {t1 t2 t3 t4 t5 : Tok} {h0 : Heap} {L : Addr} {m : Str → Option Value} {news : List (Addr × Obj)}
    (hh : A.handled = none) (F : Fr h0 L s.heap m) (N : News h0 L s.heap news)
    (h : ∀ (h' : Heap) (M : Int) (t : Tok) (tk : Nat), Fr h0 L h' m → News h0 L h' news → a ≤ M → b ≤ M → c ≤ M → d ≤ M → e ≤ M →
      (M = a ∨ M = b ∨ M = c ∨ M = d ∨ M = e) → Q (.int M t) { s with heap := h', toks := tk }) :
    wpAny (model prog w) A (call (.builtin "max") [.int a t1, .int b t2, .int c t3, .int d t4, .int e t5]) Q E s := by
  have hT : (s.heap.push { cls := .type "tuple", data := .seq #[.int a t1, .int b t2, .int c t3, .int d t4, .int e t5] }).IsTuple
      s.heap.objs.size (intItems #[(a, t1), (b, t2), (c, t3), (d, t4), (e, t5)]) :=
    ⟨_, Heap.get?_push_size _ rfl, rfl, 0, by simp [intItems]⟩
  have sz : (s.heap.push { cls := .type "tuple", data := .seq #[.int a t1, .int b t2, .int c t3, .int d t4, .int e t5] }).objs.size = s.heap.objs.size + 1 :=
    Heap.size_push ..
  refine max_walk (wpAny_pyIter_tuple hT ?_)
  have ne : s.heap.objs.size ≠ (s.heap.push { cls := .type "tuple", data := .seq #[.int a t1, .int b t2, .int c t3, .int d t4, .int e t5] }).objs.size := by
    rw [sz]
    omega
  refine ⟨_, [_, s.heap.objs.size], [_], _, _, _, _, rfl, Walks.tuple (A := A.in1) hh _ s.heap.objs.size ne (intItems #[(a, t1), (b, t2), (c, t3), (d, t4), (e, t5)]),
    ⟨⟨_, Heap.get?_push_size _ rfl, rfl, rfl⟩, hT.push _⟩, ?_, by simp [intItems],
    CmpOf.ints_gt (numAt #[(a, t1), (b, t2), (c, t3), (d, t4), (e, t5)]) (fun _ _ => intItems_at), ?_⟩
  · intro y hy
    show y < ((s.heap.push _).push _).objs.size
    rw [Heap.size_push, sz]
    rw [List.mem_cons, List.mem_singleton, sz] at hy
    rcases hy with hy | hy
    · rw [hy]
      exact Nat.lt_succ_self _
    · rw [hy]
      exact Nat.lt_succ_of_lt (Nat.lt_succ_self _)
  · intro v h' tk p k
    have old : ∀ y o, s.heap.get? y = some o → h'.get? y = some o := fun y o eo => by
      refine k y o (fun hm => ?_) (Heap.get?_push_of_some _ (Heap.get?_push_of_some _ eo))
      have l1 := Heap.lt_size eo
      rw [List.mem_singleton, sz] at hm
      rw [hm] at l1
      exact Nat.lt_irrefl _ (Nat.lt_of_succ_lt l1)
    have s5 : (intItems #[(a, t1), (b, t2), (c, t3), (d, t4), (e, t5)]).size - 1 = 4 := by simp [intItems]
    rw [s5] at p
    obtain ⟨t, rfl⟩ := intItems_at p
    obtain ⟨le, all⟩ := argBest_gt (numAt #[(a, t1), (b, t2), (c, t3), (d, t4), (e, t5)]) 4
    exact h h' _ t tk (F.grownK old) (N.grown old) (all 0 (by omega)) (all 1 (by omega)) (all 2 (by omega)) (all 3 (by omega)) (all 4 (by omega)) (num5 _ le)
end
theorem due {a1 a2 a3 a4 a5 a6 a7 a8 a9 a10 a11 a12 : Int} :
    PyKp128.br_right a1 a2 a3 a4 a5 a6 a7 a8 a9 a10 a11 a12 =
      [0, if a1 ≤ 1048576 ∧ a2 ≤ 1048576 ∧ a3 ≤ 1048576 ∧ a4 ≤ 1048576 ∧ a5 ≤ 1048576 ∧ a6 ≤ 16777216 ∧ 1 ≤ a7 ∧ a7 ≤ 65535 ∧
        1 ≤ a8 ∧ a8 ≤ 16777216 ∧ 1 ≤ a9 ∧ a9 ≤ 65535 ∧ 1 ≤ a10 ∧ a10 ≤ a11 ∧ a11 ≤ 65535 ∧ 1 ≤ a12 ∧ a12 ≤ 65535 then 0 else -22] := by
  show [0, if decide _ = true then (0 : Int) else -22] = _
  simp only [decide_eq_true_eq]
  rfl
theorem said : PySem.Challenge.rw_breathbound_s01_br_right.wellSaid = true := by decide +kernel
theorem shut_no {w1 w2 w3 w4 w5 w6 w7 w8 w9 w10 w11 w12 : Int} (hpre : OpenSpec.pre PySem.Challenge.rw_breathbound_s01_br_right [.int w1, .int w2, .int w3, .int w4, .int w5, .int w6, .int w7, .int w8, .int w9, .int w10, .int w11, .int w12] = true)
    (h : ¬ (w1 ≤ 1048576 ∧ w2 ≤ 1048576 ∧ w3 ≤ 1048576 ∧ w4 ≤ 1048576 ∧ w5 ≤ 1048576 ∧ w6 ≤ 16777216 ∧ 1 ≤ w7 ∧ w7 ≤ 65535 ∧
      1 ≤ w8 ∧ w8 ≤ 16777216 ∧ 1 ≤ w9 ∧ w9 ≤ 65535 ∧ 1 ≤ w10 ∧ w10 ≤ w11 ∧ w11 ≤ 65535 ∧ 1 ≤ w12 ∧ w12 ≤ 65535)) :
    OpenSpec.post PySem.Challenge.rw_breathbound_s01_br_right [.int w1, .int w2, .int w3, .int w4, .int w5, .int w6, .int w7, .int w8, .int w9, .int w10, .int w11, .int w12] (ofPy (PyData.list [PyData.int 0, PyData.int (-22)])) = true := by
  os_open said with a w q e
  obtain ⟨a1, a2, a3, a4, a5, a6, a7, a8, a9, a10, a11, a12, u⟩ := a
  have r1 := (List.cons.inj e).2
  have r2 := (List.cons.inj r1).2
  have r3 := (List.cons.inj r2).2
  have r4 := (List.cons.inj r3).2
  have r5 := (List.cons.inj r4).2
  have r6 := (List.cons.inj r5).2
  have r7 := (List.cons.inj r6).2
  have r8 := (List.cons.inj r7).2
  have r9 := (List.cons.inj r8).2
  have r10 := (List.cons.inj r9).2
  have r11 := (List.cons.inj r10).2
  have e1 : _ = a1 := os_j_int (List.cons.inj e).1
  have e2 : _ = a2 := os_j_int (List.cons.inj r1).1
  have e3 : _ = a3 := os_j_int (List.cons.inj r2).1
  have e4 : _ = a4 := os_j_int (List.cons.inj r3).1
  have e5 : _ = a5 := os_j_int (List.cons.inj r4).1
  have e6 : _ = a6 := os_j_int (List.cons.inj r5).1
  have e7 : _ = a7 := os_j_int (List.cons.inj r6).1
  have e8 : _ = a8 := os_j_int (List.cons.inj r7).1
  have e9 : _ = a9 := os_j_int (List.cons.inj r8).1
  have e10 : _ = a10 := os_j_int (List.cons.inj r9).1
  have e11 : _ = a11 := os_j_int (List.cons.inj r10).1
  have e12 : _ = a12 := os_j_int (List.cons.inj r11).1
  clear r1 r2 r3 r4 r5 r6 r7 r8 r9 r10 r11 e
  subst e1 e2 e3 e4 e5 e6 e7 e8 e9 e10 e11 e12
  show _ = WData.list ((PyKp128.br_right _ _ _ _ _ _ _ _ _ _ _ _).map WData.int)
  rw [due, if_neg h]
  simp [ofPy, ofPys]
theorem shut_ok {w1 w2 w3 w4 w5 w6 w7 w8 w9 w10 w11 w12 : Int} (hpre : OpenSpec.pre PySem.Challenge.rw_breathbound_s01_br_right [.int w1, .int w2, .int w3, .int w4, .int w5, .int w6, .int w7, .int w8, .int w9, .int w10, .int w11, .int w12] = true)
    (h : (w1 ≤ 1048576 ∧ w2 ≤ 1048576 ∧ w3 ≤ 1048576 ∧ w4 ≤ 1048576 ∧ w5 ≤ 1048576 ∧ w6 ≤ 16777216 ∧ 1 ≤ w7 ∧ w7 ≤ 65535 ∧
      1 ≤ w8 ∧ w8 ≤ 16777216 ∧ 1 ≤ w9 ∧ w9 ≤ 65535 ∧ 1 ≤ w10 ∧ w10 ≤ w11 ∧ w11 ≤ 65535 ∧ 1 ≤ w12 ∧ w12 ≤ 65535)) :
    OpenSpec.post PySem.Challenge.rw_breathbound_s01_br_right [.int w1, .int w2, .int w3, .int w4, .int w5, .int w6, .int w7, .int w8, .int w9, .int w10, .int w11, .int w12] (ofPy (PyData.list [PyData.int 0, PyData.int 0])) = true := by
  os_open said with a w q e
  obtain ⟨a1, a2, a3, a4, a5, a6, a7, a8, a9, a10, a11, a12, u⟩ := a
  have r1 := (List.cons.inj e).2
  have r2 := (List.cons.inj r1).2
  have r3 := (List.cons.inj r2).2
  have r4 := (List.cons.inj r3).2
  have r5 := (List.cons.inj r4).2
  have r6 := (List.cons.inj r5).2
  have r7 := (List.cons.inj r6).2
  have r8 := (List.cons.inj r7).2
  have r9 := (List.cons.inj r8).2
  have r10 := (List.cons.inj r9).2
  have r11 := (List.cons.inj r10).2
  have e1 : _ = a1 := os_j_int (List.cons.inj e).1
  have e2 : _ = a2 := os_j_int (List.cons.inj r1).1
  have e3 : _ = a3 := os_j_int (List.cons.inj r2).1
  have e4 : _ = a4 := os_j_int (List.cons.inj r3).1
  have e5 : _ = a5 := os_j_int (List.cons.inj r4).1
  have e6 : _ = a6 := os_j_int (List.cons.inj r5).1
  have e7 : _ = a7 := os_j_int (List.cons.inj r6).1
  have e8 : _ = a8 := os_j_int (List.cons.inj r7).1
  have e9 : _ = a9 := os_j_int (List.cons.inj r8).1
  have e10 : _ = a10 := os_j_int (List.cons.inj r9).1
  have e11 : _ = a11 := os_j_int (List.cons.inj r10).1
  have e12 : _ = a12 := os_j_int (List.cons.inj r11).1
  clear r1 r2 r3 r4 r5 r6 r7 r8 r9 r10 r11 e
  subst e1 e2 e3 e4 e5 e6 e7 e8 e9 e10 e11 e12
  show _ = WData.list ((PyKp128.br_right _ _ _ _ _ _ _ _ _ _ _ _).map WData.int)
  rw [due, if_pos h]
  simp [ofPy, ofPys]
def rightF (near cough limit pull stiff narrow most volume in_most out_least next_most longer : Int) : Bool :=
  decide (near ≤ 1048576 ∧ cough ≤ 1048576 ∧ limit ≤ 1048576 ∧ pull ≤ 1048576 ∧ stiff ≤ 1048576 ∧ narrow ≤ 16777216 ∧ 1 ≤ most ∧ most ≤ 65535 ∧
      1 ≤ volume ∧ volume ≤ 16777216 ∧ 1 ≤ in_most ∧ in_most ≤ 65535 ∧ 1 ≤ out_least ∧ out_least ≤ next_most ∧ next_most ≤ 65535 ∧ 1 ≤ longer ∧ longer ≤ 65535)
end My
local macro_rules | `(tactic| walk_at "call builtin:max") => `(tactic| (k_here; (with_reducible show wpAny _ _ (call (Value.builtin _) [Value.int _ _, Value.int _ _, Value.int _ _, Value.int _ _, Value.int _ _]) _ _ _); (with_unfolding_all refine' My.max_five ?k1 ?k2 ?k3 ?_; (case k1 => with_unfolding_all rfl); (case k2 => k_asm); (case k3 => k_asm); k_whole); intro h' M' t' k' F' N' b1 b2 b3 b4 b5 b6; (try k_sweep)))
local macro_rules | `(tactic| walk_at "compareChain") => `(tactic| refine chain_link ?_)
set_option maxRecDepth 100000 in
set_option maxHeartbeats 8000000 in
theorem PySem.Challenge.cw_breathbound_s01_br_right_holds : PySem.Challenge.rw_breathbound_s01_br_right.Holds := by
  k_with "call ref" => k_call_by "make_is_right" My.rightF
  k_with "tree" => (unfold My.rightF; first | (apply decide_eq_decide.mpr; omega) | exact (decide_eq_false (by omega)).symm | exact (decide_eq_true (by omega)).symm)
  open_ks with [.int 0, .int 0, .int 0, .int 0, .int 0, .int 0, .int 0, .int 0, .int 0, .int 0, .int 0, .int 0]
  all_goals first | exact My.shut_no hpre (of_decide_eq_false (by assumption)) | exact My.shut_ok hpre (of_decide_eq_true (by assumption))
#print axioms PySem.Challenge.cw_breathbound_s01_br_right_holds
