/- A range over a function: what was proved of operations outside a round goes into one; laws of the statement over Kept. Nothing of the program is used here. -/
import Derived.Test.YtnkddhmhjnhgcaaGreatDoorUtil
import Derived.RangeFuncNested
import Derived.RangeFuncLeaves
import Derived.Shelf.Abstract
import Derived.TacticsInMore
import Derived.LoopNIn
import Derived.LoopIn
import Derived.OwnWalkIn
import Derived.OrdersHeld
import Derived.Deep.RegionHeld
set_option linter.unusedVariables false
namespace Go.Proofs.YtnkddhmhjnhgcaaGreatDoor
open Go.RowKit

section
variable {n : Nat} {P : Program} {ops : Array Oper} {Q : Exit → Act → World → Prop} {md : Region.Mode} {l : Nat}
def NoDefer (o : Oper) : Prop := ∀ c, o.op ≠ .defer c
theorem callsIn_round {f : FuncId} {args : Array Value} {w : World} {R : Ending → World → Prop} (h : Calls P f args w R) : CallsIn (Fence.wide.inRound l) n P f args w R := CallsIn.inRound l (callsIn_wide.2 h)
theorem rowsIn_round {row : String} {args : Array Value} {w : World} {R : Value → World → Prop} (h : Rows P row args w R) : RowsIn (Fence.wide.inRound l) n P row args w R := fun c cs _ => by
  obtain ⟨v, w', r, s⟩ := h c cs
  exact ⟨v, w', r, stepsIn_wide.2 s⟩
theorem wpIn_of_wp {o : Oper} {a : Act} {w : World} {K : Act → World → Prop} (hd : NoDefer o) (h : o.wp P a w K Q) : o.wpIn (Fence.wide.inRound l) n P a w K Q := by
  unfold Oper.wp at h
  refine ⟨fun f _ => trivial, ?_⟩
  show o.uponIn _ n P a K Q ((o.semAt (some l) a.eval).run P w)
  rw [Oper.semAt_some l _ _ hd]
  generalize (execOp a.eval o).run P w = r at *
  cases r with
  | ok x w' =>
    cases x <;> simp only [Oper.upon, Oper.uponIn] at h ⊢ <;>
      first
        | exact h
        | exact ⟨fun hh => (by simp [Fence.wide, Fence.inRound] at hh), callsIn_round h⟩
        | exact ⟨fun hh => (by simp [Fence.wide, Fence.inRound] at hh), rowsIn_round h⟩
  | halt x w' => cases x <;> simp only [Oper.upon, Oper.uponIn] at h ⊢ <;> exact h
theorem wpListIn_of_wpList (hQ : ¬ LetsOut Q) : ∀ (rest : List Oper) (a : Act) (w : World), (∀ o ∈ rest, NoDefer o) → wpList P ops Q rest a w → wpListIn (Fence.wide.inRound l) n P ops Q rest a w
  | [], _, _, _, h => h
  | o :: rest, a, w, hd, h => by
    simp only [wpList, wpListIn] at h ⊢
    split
    · rename_i hw
      rw [if_pos hw] at h
      refine Oper.wpIn_mono (fun a' w' h' => wpListIn_of_wpList hQ rest a' w' (fun o' ho' => hd o' (List.mem_cons_of_mem _ ho')) h') (wpIn_of_wp (hd o (by simp)) (h.resolve_right (fun hh => hQ hh.2)))
    · rename_i hw
      rw [if_neg hw] at h
      exact ⟨fun _ _ => trivial, wpListIn_of_wpList hQ rest _ w (fun o' ho' => hd o' (List.mem_cons_of_mem _ ho')) h⟩
theorem wpOpIn_of_wpOp (hQ : ¬ LetsOut Q) (hd : ∀ o ∈ ops.toList, NoDefer o) {i : Nat} {K : Act → World → Prop} {a : Act} {w : World} (h : wpOp P ops Q i K a w) : wpOpIn (Fence.wide.inRound l) n P ops Q i K a w := by
  unfold wpOp at h
  unfold wpOpIn
  cases ho : ops[i]? with
  | none => simp only [ho] at h ⊢; exact h
  | some o =>
    simp only [ho] at h ⊢
    have hm : NoDefer o := hd o (by obtain ⟨hlt, rfl⟩ := Array.getElem?_eq_some_iff.1 ho; simp)
    split
    · rename_i hw
      rw [if_pos hw] at h
      exact wpIn_of_wp hm (h.resolve_right (fun hh => hQ hh.2))
    · rename_i hw
      rw [if_neg hw] at h
      exact ⟨fun _ _ => trivial, h⟩
theorem wpAnyIn_of_wpAny (hQ : ¬ LetsOut Q) (hd : ∀ o ∈ ops.toList, NoDefer o) : ∀ (fuel : Nat) (listed : Array Bool) (a : Act) (w : World), wpAny P md ops Q fuel listed a w → wpAnyIn (Fence.wide.inRound l) n P md ops Q fuel listed a w
  | 0, _, _, _, h => h
  | fuel + 1, _, _, _, h => ⟨h.1, fun i hi => wpOpIn_mono (fun a' w' h' => wpAnyIn_of_wpAny hQ hd fuel _ a' w' h') (wpOpIn_of_wpOp hQ hd (h.2 i hi))⟩
/-- A region of a round's body, walked as everywhere. -/
theorem region_round {id : Nat} {lo : List Oper} {a : Act} {w : World} (hQ : ¬ LetsOut Q) (hd : ∀ o ∈ lo, NoDefer o) (h : wpList P lo.toArray Q lo a w) : (Code.region id lo.toArray false).wpIn (Fence.wide.inRound l) n P Q a w :=
  wpIn_region_lit (wpListIn_of_wpList hQ lo a w hd h)
/-- A region that draws its order, under a held condition. -/
theorem region_round_held {id : Nat} {a : Act} {w : World} {S : World → Prop} (hQ : ¬ LetsOut Q) (hd : ∀ o ∈ ops.toList, NoDefer o) (hm : P.follows .mixedOrders = true) (hS : S w.drew) (h : S w.drew → wpAnyH P .any ops Q S ops.size (Array.replicate ops.size false) a w.drew) : (Code.region id ops true).wpIn (Fence.wide.inRound l) n P Q a w :=
  wpIn_region_any hm (wpAnyIn_of_wpAny hQ hd _ _ _ _ (wpAny_of_held _ _ _ _ (h hS)))
end
/-- A block that is no cells has been put into a place from B on. -/
theorem Kept.put {S : List Nat} {a w : World} (h : Kept S a w) {k : Nat} (hk : a.heap.size ≤ k) (o : Obj) : Kept S a (w.putObj k o) :=
  ⟨h.os, h.tape, h.output, by have := h.size; simpa using this, fun i hi hn => (World.putObj_heap_other (by omega)).trans (h.block i hi hn)⟩
/-- The blocks T are as they were. -/
def KeptOff (T : List Nat) (w w' : World) : Prop := ∃ S, Kept S w w' ∧ ∀ y ∈ S, y ∉ T
theorem KeptOff.of {T : List Nat} {w w' : World} (h : Kept [] w w') : KeptOff T w w' := ⟨[], h, by simp⟩
theorem KeptOff.refl (T : List Nat) (w : World) : KeptOff T w w := .of (Kept.refl _ _)
theorem KeptOff.trans {T : List Nat} {a b c : World} (h : KeptOff T a b) (k : KeptOff T b c) : KeptOff T a c := by
  obtain ⟨S, h1, h2⟩ := h
  obtain ⟨U, k1, k2⟩ := k
  exact ⟨S ++ U, (h1.mono (fun y hy => .inl (List.mem_append_left _ hy))).trans k1 (fun y hy => .inl (List.mem_append_right _ hy)), fun y hy => (List.mem_append.1 hy).elim (h2 y) (k2 y)⟩
theorem KeptOff.put {T : List Nat} (w : World) {k : Nat} (o : Obj) (hk : k ∉ T) (hlt : k < w.heap.size) : KeptOff T w (w.putObj k o) :=
  ⟨[k], ⟨rfl, rfl, rfl, by simp, fun i hi hn => World.putObj_heap_other (by simp at hn; exact hn)⟩, by simpa using hk⟩
/-- An iterator over items: it calls yield with each, in order, till yield says no; of memory it changes nothing that was there, and it wants the blocks T as they were. -/
def IterK {α : Type} (P : Program) (gf : Nat) (recv : Array Value) (encs : α → Array Value) (T : List Nat) (items : List α) (w0 : World) : Prop :=
  ∀ (l : Nat) (J Jx : List α → World → Prop) (W : World), KeptOff T w0 W → (∀ pre W1 W2, J pre W1 → Kept [] W1 W2 → J pre W2) → (∀ pre W1 W2, Jx pre W1 → Kept [] W1 W2 → Jx pre W2) →
    (∀ pre x post W1, items = pre ++ x :: post → KeptOff T w0 W1 → J pre W1 → YieldAt Fence.wide 0 P l (encs x) W1 fun e W2 => (e = .returned (.bool true) ∧ J (pre ++ [x]) W2 ∧ KeptOff T W1 W2) ∨ (e = .returned (.bool false) ∧ Jx (pre ++ [x]) W2)) → J [] W →
    CallsIn Fence.wide 0 P gf (recv ++ #[.func (.yield l) #[] #[]]) W fun e W2 => (∃ v, e = .returned v) ∧ (J items W2 ∨ ∃ pre, Jx pre W2)
/-- How a round's body is left. -/
def roundEnd {α : Type} (B : Nat) (T : List Nat) (I : List α → World → Prop) (Ix : Nat → List α → World → Prop) (xs : List α) (W : World) : Exit → Act → World → Prop
  | .normal, _, W2 => KeepsFrom B W W2 ∧ KeptOff T W W2 ∧ I xs W2
  | .exit id, _, W2 => KeepsFrom B W W2 ∧ Ix id xs W2
  | .goto _, _, _ => False
  | .ret, _, _ => False
  | .panic _, _, _ => False
  | .outgrown, _, _ => False
theorem roundEnd_out {α : Type} {B : Nat} {T : List Nat} {I : List α → World → Prop} {Ix : Nat → List α → World → Prop} {xs : List α} {W : World} : ¬ LetsOut (roundEnd B T I Ix xs W) := fun ⟨_, _, h⟩ => h
/-- The statement over such an iterator, a method's value. -/
theorem wp_range_iter {α : Type} {P : Program} {g : Operand} {ps : Array Tmp} {assign body : Code} {Q : Exit → Act → World → Prop} {a : Act} {w : World} {gf : Nat} {recv : Array Value} (hg : a.eval g = .func (.func gf) recv #[]) (eg : ∀ args w, (callFunc gf args).run P w = .ok (.enter gf args) w)
    {encs : α → Array Value} {T : List Nat} {items : List α} (hit : IterK P gf recv encs T items w) (hps : ∀ x, (encs x).size = ps.size) (hT : ∀ y ∈ T, y < w.heap.size)
    (I : List α → World → Prop) (Ix : Nat → List α → World → Prop) (hIk : ∀ pre W W2, I pre W → Kept [] W W2 → I pre W2) (hXk : ∀ id pre W W2, Ix id pre W → Kept [] W W2 → Ix id pre W2)
    (hIt : ∀ pre W k o o', I pre W → w.heap.size ≤ k → W.heap[k]? = some o → o.isCells = false → I pre (W.putObj k o')) (hXt : ∀ id pre W k o o', Ix id pre W → w.heap.size ≤ k → W.heap[k]? = some o → o.isCells = false → Ix id pre (W.putObj k o')) (h0 : I [] w) (a₁ : α → Act)
    (hassign : ∀ (l : Nat) (x : α) (W : World) (K : Act → World → Prop), K (a₁ x) W → assign.wpIn (Fence.wide.inRound l) 0 P (Exit.then K (fun _ _ _ => False)) { tmps := (ps.zip (encs x)).foldl (fun t (p, v) => t.setIfInBounds p v) a.tmps, defers := [] } W)
    (hbody : ∀ (l : Nat) (pre : List α) (x : α) (post : List α) (W : World), items = pre ++ x :: post → KeptOff T w W → I pre W → body.wpIn (Fence.wide.inRound l) 0 P (roundEnd w.heap.size T I Ix (pre ++ [x]) W) (a₁ x) W)
    (hdone : ∀ (D : Nat) (W : World), w.heap.size ≤ D → I items W → W.heap[D]? = some (.deferred (some [])) → Q .normal { a with defers := { target := .collected D, args := #[] } :: a.defers } W)
    (hstop : ∀ (D id : Nat) (pre : List α) (W : World), w.heap.size ≤ D → Ix id pre W → W.heap[D]? = some (.deferred (some [])) → (Code.exit id).wpIn Fence.wide 0 P Q { a with defers := { target := .collected D, args := #[] } :: a.defers } W) :
    (Code.rangeFunc g ps assign body).wpIn Fence.wide 0 P Q a w := by
  refine wpIn_rangeFunc fun fn _ => ?_
  obtain ⟨rec, hrec⟩ : ∃ rec : LoopState → Option Code → Loop, rec = fun st pe => { state := st, pending := pe, fn, tmps := a.tmps, params := ps, assign, body, defers := w.heap.size } := ⟨_, rfl⟩
  obtain ⟨W1, hW1⟩ : ∃ W1, (w.alloc (.deferred (some []))).alloc (.loop (rec .ready none)) = W1 := ⟨_, rfl⟩
  have hk1 : Kept [] w W1 := by rw [← hW1]; exact ((Kept.refl [] w).alloc _).alloc _
  have hL1 : W1.heap[w.heap.size + 1]? = some (.loop (rec .ready none)) := by rw [← hW1]; exact heap_new_at (by simp)
  have hD1 : W1.heap[w.heap.size]? = some (.deferred (some [])) := by rw [← hW1]; exact ((Kept.refl [] _).alloc _).heap (heap_new_at rfl) (by simp)
  have hTL : ∀ {k}, w.heap.size ≤ k → k ∉ T := fun hk hm => by have := hT _ hm; omega
  refine ⟨w.heap.size + 1, [{ target := .collected w.heap.size, args := #[] }], W1, { target := .fn (.func gf) #[], args := recv ++ #[.func (.yield (w.heap.size + 1)) #[] #[]] }, W1, gf, recv ++ #[.func (.yield (w.heap.size + 1)) #[] #[]], W1, ?_, ?_, fun _ _ => trivial, ?_, fun hh => (by simp [Fence.wide] at hh), ?_⟩
  · rw [← hW1, hrec]; exact run_enterLoop_outer _ _ _ _ _
  · simp only [resolve, hg]
    simp [go_sem]
  · simp [invoke, go_sem, eg]
  · refine (hit (w.heap.size + 1) (fun pre W => I pre W ∧ W.heap[w.heap.size + 1]? = some (.loop (rec .ready none)) ∧ W.heap[w.heap.size]? = some (.deferred (some [])))
      (fun pre W => ∃ id, Ix id pre W ∧ W.heap[w.heap.size + 1]? = some (.loop (rec .done (some (.exit id)))) ∧ W.heap[w.heap.size]? = some (.deferred (some []))) W1 (.of hk1)
      (fun pre A B h hk => ⟨hIk _ _ _ h.1 hk, hk.heap h.2.1 (by simp), hk.heap h.2.2 (by simp)⟩)
      (fun pre A B h hk => by obtain ⟨id, h1, h2, h3⟩ := h; exact ⟨id, hXk _ _ _ _ h1 hk, hk.heap h2 (by simp), hk.heap h3 (by simp)⟩) ?_ ⟨hIk _ _ _ h0 hk1, hL1, hD1⟩).mono ?_
    · rintro pre x post W hx hoff ⟨hi, hl, hd⟩
      have hlt : w.heap.size + 1 < W.heap.size := (Array.getElem?_eq_some_iff.1 hl).1
      have hy := run_yield (P := P) (args := encs x) hl (by rw [hrec]; exact hps x)
      rw [hrec] at hy
      refine ⟨fn, _, assign, body, hy, roundIn_of_wpIn trivial (hassign _ x W _ ⟨_, run_beginRound hl (by rw [hrec]), ?_⟩)⟩
      obtain ⟨V, hV⟩ : ∃ V, W.putObj (w.heap.size + 1) (.loop { rec .ready none with state := .busy }) = V := ⟨_, rfl⟩
      have hoV : KeptOff T W V := by rw [← hV]; exact .put W _ (hTL (by omega)) hlt
      have hlV : V.heap[w.heap.size + 1]? = some (.loop { rec .ready none with state := .busy }) := by rw [← hV]; exact World.putObj_heap_same hlt
      have hdV : V.heap[w.heap.size]? = some (.deferred (some [])) := by rw [← hV]; exact (World.putObj_heap_other (by omega)).trans hd
      have hiV : I pre V := by rw [← hV]; exact hIt _ _ _ _ _ hi (by omega) hl rfl
      rw [hV]
      refine Code.wpIn_mono ?_ (hbody _ pre x post V hx (hoff.trans hoV) hiV)
      have fin : ∀ (jump : Option Code) (U : World), KeepsFrom w.heap.size V U →
          (Instr.endRound (w.heap.size + 1) jump).run P U = .ok (.bool jump.isNone) (U.putObj (w.heap.size + 1) (.loop (rec (if jump.isNone then .ready else .done) jump))) ∧ (∃ o, U.heap[w.heap.size + 1]? = some o ∧ o.isCells = false) ∧ w.heap.size + 1 < U.heap.size ∧
          (U.putObj (w.heap.size + 1) (.loop (rec (if jump.isNone then .ready else .done) jump))).heap[w.heap.size + 1]? = some (.loop (rec (if jump.isNone then .ready else .done) jump)) ∧
          (U.putObj (w.heap.size + 1) (.loop (rec (if jump.isNone then .ready else .done) jump))).heap[w.heap.size]? = some (.deferred (some [])) := fun jump U hk => by
        have hlU := hk.same _ _ (by omega) hlV rfl
        have hltU := (Array.getElem?_eq_some_iff.1 hlU).1
        have hr := run_endRound (P := P) jump hlU
        rw [hrec] at hr ⊢
        exact ⟨hr, ⟨_, hlU, rfl⟩, hltU, World.putObj_heap_same hltU, (World.putObj_heap_other (by omega)).trans (hk.same _ _ (Nat.le_refl _) hdV rfl)⟩
      rintro e a3 U hp
      cases e with
      | normal =>
        obtain ⟨h1, h2, h3⟩ := hp
        obtain ⟨hr, ⟨o, ho, hoc⟩, hltU, hl4, hd4⟩ := fin none U h1
        exact ⟨_, _, hr, .inl ⟨rfl, ⟨hIt _ _ _ _ _ h3 (by omega) ho hoc, hl4, hd4⟩, (hoV.trans h2).trans (.put U _ (hTL (by omega)) hltU)⟩⟩
      | exit id =>
        obtain ⟨h1, h3⟩ := hp
        obtain ⟨hr, ⟨o, ho, hoc⟩, hltU, hl4, hd4⟩ := fin (some (.exit id)) U h1
        exact ⟨_, _, hr, .inr ⟨rfl, id, hXt _ _ _ _ _ _ h3 (by omega) ho hoc, hl4, hd4⟩⟩
      | ret => exact hp.elim
      | goto t => exact hp.elim
      | panic c => exact hp.elim
      | outgrown => exact hp.elim
    · rintro e U ⟨⟨v, rfl⟩, (⟨hi, hl, hd⟩ | ⟨pre, id, hi, hl, hd⟩)⟩
      · have hr := run_endLoop (P := P) hl (by rw [hrec]; simp)
        rw [hrec] at hr
        exact ⟨none, _, hr, hdone _ _ (Nat.le_refl _) (hIt _ _ _ _ _ hi (by omega) hl rfl) ((World.putObj_heap_other (by omega)).trans hd)⟩
      · have hr := run_endLoop (P := P) hl (by rw [hrec]; simp)
        rw [hrec] at hr
        exact ⟨some (.exit id), _, hr, hstop _ id pre _ (Nat.le_refl _) (hXt _ _ _ _ _ _ hi (by omega) hl rfl) ((World.putObj_heap_other (by omega)).trans hd)⟩
end Go.Proofs.YtnkddhmhjnhgcaaGreatDoor
