/-
  Layers as lists of entries: the faults of an entry and of a layer, the entry of a path, what is put, what is dropped, chunks. Nothing of a program.
-/
import Derived.Test.YtcnoabkpilmanaaPathL
import GoSem.Op.String
namespace Go.Proofs.Ytcnoabkpilmanaa
set_option linter.unusedVariables false

structure En where
  path : Bs
  kind : Int
  size : Int
  chunks : List Int
  deriving DecidableEq

def isDig (c : Int) : Bool := decide (0 ≤ c ∧ c ≤ 4294967295)
/-- Kind, Size and Chunks go together. -/
def formE (e : En) : Bool := decide ((1 ≤ e.kind ∧ e.kind ≤ 4) ∧ (e.kind = 1 ∨ (e.size = 0 ∧ e.chunks.length = 0)))
def sizeE (e : En) : Bool := decide (0 ≤ e.size ∧ e.size ≤ 24)
def manyE (e : En) : Bool := decide ((e.chunks.length : Int) = (e.size + 7) / 8)
/-- What EntryFault answers. -/
def entFault (e : En) : Int :=
  if faultP e.path = 0 then (if formE e then (if sizeE e then (if manyE e then (if e.chunks.all isDig then 0 else 3) else 1) else 3) else 1) else faultP e.path
theorem entFault_path {e : En} (h : faultP e.path ≠ 0) : entFault e = faultP e.path := by simp [entFault, h]
theorem entFault_form {e : En} (h : faultP e.path = 0) (h1 : formE e = false) : entFault e = 1 := by simp [entFault, h, h1]
theorem entFault_size {e : En} (h : faultP e.path = 0) (h1 : formE e = true) (h2 : sizeE e = false) : entFault e = 3 := by simp [entFault, h, h1, h2]
theorem entFault_many {e : En} (h : faultP e.path = 0) (h1 : formE e = true) (h2 : sizeE e = true) (h3 : manyE e = false) : entFault e = 1 := by simp [entFault, h, h1, h2, h3]
theorem entFault_digs {e : En} (h : faultP e.path = 0) (h1 : formE e = true) (h2 : sizeE e = true) (h3 : manyE e = true) : entFault e = if e.chunks.all isDig then 0 else 3 := by simp [entFault, h, h1, h2, h3]

def dirK (k : Int) : Bool := decide (k = 2 ∨ k = 4)
/-- The first entry of a path. -/
def findE (es : List En) (p : Bs) : Option En := es.find? fun e => decide (e.path = p)
/-- The path above; none: empty. -/
def parentP (p : Bs) : Bs := (aboveN (cutB p.tail)).getLastD []
/-- Is the parent of a path a directory of the layer? -/
def homeE (es : List En) (p : Bs) : Bool :=
  if parentP p = [] then true else
    match findE es (parentP p) with
    | none => false
    | some e => dirK e.kind
/-- Is a path not above the one ahead? -/
def lowE (prev : Option En) (e : En) : Bool :=
  match prev with
  | none => false
  | some q => Op.bytesLess e.path q.path || (e.path == q.path)
/-- The fault of one entry of a layer. -/
def entBad (es : List En) (prev : Option En) (e : En) : Int := if entFault e = 0 then (if lowE prev e then 1 else if homeE es e.path then 0 else 9) else entFault e
def layFrom (es : List En) : Option En → List En → Int
  | _, [] => 0
  | prev, e :: r => if entBad es prev e = 0 then layFrom es (some e) r else entBad es prev e
/-- What LayerFault answers. -/
def layFault (es : List En) : Int := if 12 < es.length then 2 else layFrom es none es
/-- The entry ahead of place i. -/
def prevE (es : List En) (i : Nat) : Option En := if i = 0 then none else es[i - 1]?
theorem layFrom_step {es : List En} {i : Nat} {e : En} (h : es[i]? = some e) : layFrom es (prevE es i) (es.drop i) = if entBad es (prevE es i) e = 0 then layFrom es (prevE es (i + 1)) (es.drop (i + 1)) else entBad es (prevE es i) e := by
  obtain ⟨hi, he⟩ := List.getElem?_eq_some_iff.1 h
  have e1 : prevE es (i + 1) = some e := by simp [prevE, h]
  rw [e1, List.drop_eq_getElem_cons hi, he]
  rfl

end Go.Proofs.Ytcnoabkpilmanaa
