/-
  A range over a function, whoever the iterator is: one round out of its body's walk; the statement out of the iterator's call. What either may turn is left to the caller to say.
-/
import Derived.Test.YtiiepdgpnnjpiaaDoorBase
import Derived.RangeFuncNested
import Derived.RangeFuncBound
import Derived.RangeFuncCalls
import Derived.RangeFuncLeaves
import Derived.TacticsInMore
import Derived.LoopNIn
import Derived.LoopIn
import Derived.OwnWalkIn
namespace Go.Proofs.YtiiepdgpnnjpiaaDoor
open Go.RowKit

/-- The record of a loop while a round of it runs; when it may run a round; when a round has left it by a return; when all is over. -/
abbrev busy (r : Loop) : Obj := .loop { r with state := .busy, pending := none }
abbrev ready (r : Loop) : Obj := .loop { r with state := .ready, pending := none }
abbrev gone (r : Loop) : Obj := .loop { r with state := .done, pending := some .ret }
/-- How a round may be left: off its end, or by a return. -/
def roundEnd (l : Nat) (r : Loop) (R : Ending → World → Prop) : Exit → Act → World → Prop
  | .normal, _, w => w.heap[l]? = some (busy r) ∧ R (.returned (.bool true)) (w.putObj l (ready r))
  | .ret, _, w => w.heap[l]? = some (busy r) ∧ R (.returned (.bool false)) (w.putObj l (gone r))
  | _, _, _ => False
theorem round_at {P : Program} {n l : Nat} {r : Loop} {args : Array Value} {W : World} {R : Ending → World → Prop} (hl : W.heap[l]? = some (ready r)) (hs : args.size = r.params.size)
    (h : r.assign.wpIn (Fence.wide.inRound l) n P (Exit.then (fun a₁ w₁ => w₁ = W ∧ r.body.wpIn (Fence.wide.inRound l) n P (roundEnd l r R) a₁ (W.putObj l (busy r))) (fun _ _ _ => False))
      { tmps := (r.params.zip args).foldl (fun t (p, v) => t.setIfInBounds p v) r.tmps, defers := [] } W) :
    YieldAt Fence.wide n P l args W R := by
  have hy := run_yield (P := P) (args := args) hl hs
  refine ⟨r.fn, _, r.assign, r.body, hy, roundIn_of_wpIn trivial (wpIn_mono h ?_)⟩
  rintro e a₁ w₁ hp
  cases e with
  | normal =>
    obtain ⟨rfl, hb⟩ := hp
    refine ⟨_, run_beginRound hl rfl, wpIn_mono hb ?_⟩
    rintro e a₂ w₂ hq
    cases e with
    | normal =>
      obtain ⟨h1, h2⟩ := hq
      exact ⟨_, _, run_endRound none h1, h2⟩
    | ret =>
      obtain ⟨h1, h2⟩ := hq
      exact ⟨_, _, run_endRound (some .ret) h1, h2⟩
    | exit id => exact hq.elim
    | goto t => exact hq.elim
    | panic ch => exact hq.elim
    | outgrown => exact hq.elim
  | ret => exact hp.elim
  | exit id => exact hp.elim
  | goto t => exact hp.elim
  | panic ch => exact hp.elim
  | outgrown => exact hp.elim

/-- The mark that an outermost loop leaves on the call. -/
abbrev mark (D : Nat) : Deferred := { target := .collected D, args := #[] }
theorem over_any {P : Program} {n : Nat} {g : Operand} {ps : Array Tmp} {assign body : Code} {Q : Exit → Act → World → Prop} {a : Act} {w : World} {gf : Nat} {lb : Array Value}
    (hg : a.eval g = .func (.func gf) #[] lb) (eg : ∀ args w, (callFunc gf args).run P w = .ok (.enter gf args) w)
    (h : ∀ r : Loop, r.params = ps → r.assign = assign → r.body = body → r.tmps = a.tmps →
      Calls P gf (#[.func (.yield (w.heap.size + 1)) #[] #[]] ++ lb) ((w.alloc (.deferred (some []))).alloc (ready r)) fun e w2 => (∃ v, e = .returned v) ∧
        ((w2.heap[w.heap.size + 1]? = some (ready r) ∧ Q .normal { a with defers := mark w.heap.size :: a.defers } (w2.putObj (w.heap.size + 1) (.loop { r with state := .exhausted, pending := none }))) ∨
         (w2.heap[w.heap.size + 1]? = some (gone r) ∧ Code.ret.wpIn Fence.wide n P Q { a with defers := mark w.heap.size :: a.defers } (w2.putObj (w.heap.size + 1) (.loop { r with state := .exhausted, pending := some .ret }))))) :
    (Code.rangeFunc g ps assign body).wpIn Fence.wide n P Q a w := by
  refine wpIn_rangeFunc ?_
  intro fn _
  obtain ⟨r, hr⟩ : ∃ r : Loop, r = { state := .ready, pending := none, fn, tmps := a.tmps, params := ps, assign, body, defers := w.heap.size } := ⟨_, rfl⟩
  have hc := h r (by rw [hr]) (by rw [hr]) (by rw [hr]) (by rw [hr])
  have hrr : ready r = .loop r := by rw [hr]
  have he : (Instr.enterLoop fn a.tmps ps assign body Fence.wide.round).run P w = .ok (w.heap.size + 1, [mark w.heap.size]) ((w.alloc (.deferred (some []))).alloc (ready r)) := by
    rw [hrr, hr]; exact run_enterLoop_outer _ _ _ _ _
  clear hr hrr
  refine ⟨w.heap.size + 1, [mark w.heap.size], (w.alloc (.deferred (some []))).alloc (ready r), { target := .fn (.func gf) lb, args := #[.func (.yield (w.heap.size + 1)) #[] #[]] }, (w.alloc (.deferred (some []))).alloc (ready r), gf,
    #[.func (.yield (w.heap.size + 1)) #[] #[]] ++ lb, (w.alloc (.deferred (some []))).alloc (ready r), he, ?_, ?_, ?_, fun h => ?_, ?_⟩
  · simp only [resolve, hg]
    simp [go_sem]
  · intro f' _; trivial
  · simp [invoke, go_sem, eg]
  · cases h
  · refine callsIn_wide.2 (hc.mono ?_)
    rintro e w2 ⟨⟨v, rfl⟩, (⟨h1, h2⟩ | ⟨h1, h2⟩)⟩
    · exact ⟨none, _, run_endLoop h1 (by simp), h2⟩
    · exact ⟨some .ret, _, run_endLoop h1 (by simp), h2⟩
end Go.Proofs.YtiiepdgpnnjpiaaDoor
