/-
  When a system is one, in plain words: as the program asks it, as the model does; both are the same.
-/
import Derived.Test.YtdgihncobihbgaaGreatJ3
namespace Go.Proofs.YtdgihncobihbgaaGreat
open Go.RowKit
set_option linter.unusedSimpArgs false
set_option linter.unusedVariables false

/-! ### Plain: both -/
def rgB (r : List Int) : Bool := decide (r.length = 3) && r.all (plB · 100)
/-- numbers by cells, each once -/
def puB (xs : List Pu) (c : Int) : Bool := (List.range xs.length).all fun i => plB (nth Pu.z xs i).c c && plB (nth Pu.z xs i).n 100 && (decide (i = 0) || decide ((nth Pu.z xs (i - 1)).c < (nth Pu.z xs i).c))
def liB (t : Ta) : Bool := decide (t.way = 0) || decide (t.way = 1)
def tkN (s : Sy) (i : Nat) : Ta := nth Ta.z s.tasks i
def acts (p : Pr) (t : Ta) : List Ac := nth [] p.bodies t.body.toNat
def upfB (s : Sy) (i : Nat) : Bool :=
  if i = 0 then decide ((tkN s i).up = -1) else plB (tkN s i).up i && (!liB (tkN s i) || decide ((tkN s (tkN s i).up.toNat).way = 1))
/-- how many of a task's stand so -/
def kin (ts : List Ta) (i : Int) (way : Int) : Nat := (ts.filter fun u => decide (u.up = i) && decide (u.way = way)).length
def kno (ts : List Ta) (i : Int) : Nat := (ts.filter fun u => decide (u.up = i) && !decide (u.way = 4)).length

/-! ### Plain: the program -/
def tnB (p : Pr) (t : Ta) : Bool := plB t.body p.bodies.length && inB t.pc 0 (acts p t).length && rgB t.regs && rgB t.old && inB t.way 0 4 && inB t.stage 0 5
def acN (p : Pr) (t : Ta) : Ac := if t.pc = (acts p t).length then Ac.z else nth Ac.z (acts p t) t.pc.toNat
def wyB (p : Pr) (s : Sy) (i : Nat) : Bool :=
  if (tkN s i).way = 1 then decide ((acN p (tkN s i)).k = 2) && decide ((acN p (tkN s i)).ks.length ≤ kno s.tasks i)
  else if (tkN s i).way = 2 then decide ((tkN s i).pc = (acts p (tkN s i)).length) else true
def atB (t : Ta) (n : Nat) : Bool :=
  if 2 ≤ t.stage ∧ t.puts.length = 0 then false
  else if t.stage = 1 then inB t.at_ 0 n
  else if t.stage = 2 ∨ t.stage = 5 then plB t.at_ t.puts.length
  else if t.stage = 4 then inB t.at_ 0 t.reads.length
  else decide (t.at_ = 0)
def whB (t : Ta) (clock : Int) : Bool :=
  if t.stage = 0 then inB t.when_ 0 (clock + 1)
  else if t.stage = 4 ∨ t.stage = 5 then decide (t.since < t.when_) && decide (t.when_ ≤ clock)
  else decide (t.when_ = 0)
def cgB (p : Pr) (s : Sy) (t : Ta) : Bool :=
  !(!decide (t.stage = 0) && (!decide (t.way = 0) || !decide ((acN p t).k = 1))) && !(decide (t.stage = 0) && decide (0 < t.reads.length + t.puts.length)) &&
  (puB t.reads p.cells.length && (puB t.puts p.cells.length && (atB t (acN p t).ds.length && (inB t.since 0 s.clock && (inB t.from_ 0 s.log.length && whB t s.clock)))))
def tkB (p : Pr) (s : Sy) (i : Nat) : Bool := tnB p (tkN s i) && upfB s i && wyB p s i && cgB p s (tkN s i)
def tksB (p : Pr) (s : Sy) : Bool := inB s.tasks.length 1 7 && (List.range s.tasks.length).all (tkB p s)
/-- what a task must hold -/
def phL (t : Ta) : List Pu := if t.stage = 2 then t.puts.take t.at_.toNat else if t.stage = 3 ∨ t.stage = 4 then t.puts else if t.stage = 5 then t.puts.drop t.at_.toNat else []
def hold1 (i : Int) : List Int → List Pu → Option (List Int)
  | h, [] => some h
  | h, x :: xs => if nth 0 h x.c.toNat = -1 then hold1 i (h.set x.c.toNat i) xs else none
def holdN (ts : List Ta) (h0 : List Int) : Nat → Option (List Int)
  | 0 => some h0
  | k + 1 => (holdN ts h0 k).bind fun h => hold1 k h (phL (nth Ta.z ts k))
def ceB (s : Sy) (h : List Int) (i : Nat) : Bool := plB (nth Ce.z s.cells i).num 100 && inB (nth Ce.z s.cells i).time 0 s.clock && decide ((nth Ce.z s.cells i).lock = nth 0 h i)
def cesB (p : Pr) (s : Sy) : Bool :=
  decide (s.cells.length = p.cells.length) && (match holdN s.tasks (List.replicate s.cells.length (-1)) s.tasks.length with
    | none => false
    | some h => (List.range s.cells.length).all (ceB s h))
def enN (s : Sy) (i : Nat) : En := nth En.z s.log i
def enB (p : Pr) (s : Sy) (i : Nat) : Bool :=
  plB (enN s i).task s.tasks.length && plB (enN s i).act (acts p (tkN s (enN s i).task.toNat)).length && inB (enN s i).when_ 0 s.clock && inB (enN s i).from_ 0 i && puB (enN s i).reads p.cells.length && puB (enN s i).puts p.cells.length
def lgB (p : Pr) (s : Sy) : Bool := (List.range s.log.length).all (enB p s)
def soB (p : Pr) (s : Sy) : Bool := okB p && inB s.clock 0 200 && tksB p s && cesB p s && lgB p s

/-! ### Plain: the model -/
def mAtB (t : Ta) (n : Nat) : Bool :=
  if t.stage = 0 then decide (t.at_ = 0) && decide (t.reads.length + t.puts.length = 0)
  else if t.stage = 1 then inB t.at_ 0 n
  else if t.stage = 3 then decide (t.at_ = 0) && decide (0 < t.puts.length)
  else if t.stage = 4 then inB t.at_ 0 t.reads.length && decide (0 < t.puts.length)
  else plB t.at_ t.puts.length
def mWhB (t : Ta) (s : Sy) : Bool :=
  if inB t.since 0 s.clock && inB t.from_ 0 s.log.length then
    if t.stage = 0 then inB t.when_ 0 (s.clock + 1)
    else if t.stage = 4 ∨ t.stage = 5 then inB t.when_ (t.since + 1) s.clock
    else decide (t.when_ = 0)
  else false
def mActB (p : Pr) (s : Sy) (i : Nat) : Bool :=
  if (tkN s i).way = 0 then decide ((tkN s i).stage = 0) || (decide ((tkN s i).pc < (acts p (tkN s i)).length) && decide ((nth Ac.z (acts p (tkN s i)) (tkN s i).pc.toNat).k = 1) && mAtB (tkN s i) (nth Ac.z (acts p (tkN s i)) (tkN s i).pc.toNat).ds.length)
  else if (tkN s i).way = 1 then decide ((tkN s i).pc < (acts p (tkN s i)).length) && decide ((nth Ac.z (acts p (tkN s i)) (tkN s i).pc.toNat).k = 2) && decide ((nth Ac.z (acts p (tkN s i)) (tkN s i).pc.toNat).ks.length ≤ kin s.tasks i 0 + kin s.tasks i 1 + kin s.tasks i 2 + kin s.tasks i 3)
  else if (tkN s i).way = 2 then decide ((tkN s i).pc = (acts p (tkN s i)).length)
  else true
def mNumB (p : Pr) (t : Ta) : Bool := plB t.body p.bodies.length && inB t.pc 0 (acts p t).length && inB t.way 0 4 && inB t.stage 0 5
def mLsB (s : Sy) (t : Ta) : Bool := !(!decide (t.way = 0) && !decide (t.stage = 0)) && rgB t.regs && rgB t.old && puB t.reads s.cells.length && puB t.puts s.cells.length
def mNoB (t : Ta) : Bool := !decide (t.stage = 0) || (decide (t.at_ = 0) && decide (t.reads.length + t.puts.length = 0))
def mTkB (p : Pr) (s : Sy) (i : Nat) : Bool := mNumB p (tkN s i) && mLsB s (tkN s i) && (mNoB (tkN s i) && mWhB (tkN s i) s && upfB s i && mActB p s i)
/-- where a cell stands among such -/
def fdP (xs : List Pu) (c : Int) : Option Nat := (List.range xs.length).find? fun i => decide ((nth Pu.z xs i).c = c)
def mHoB (t : Ta) (c : Int) : Bool := match fdP t.puts c with
  | none => false
  | some i => if t.stage = 2 then decide ((i : Int) < t.at_) else if t.stage = 3 ∨ t.stage = 4 then true else if t.stage = 5 then decide (t.at_ ≤ (i : Int)) else false
def mCeB (s : Sy) (i : Nat) : Bool :=
  plB (nth Ce.z s.cells i).num 100 && inB (nth Ce.z s.cells i).time 0 s.clock && inB (nth Ce.z s.cells i).lock (-1) (s.tasks.length - 1) &&
  (List.range s.tasks.length).all fun k => mHoB (nth Ta.z s.tasks k) i == decide ((nth Ce.z s.cells i).lock = k)
def mCesB (s : Sy) : Bool := (List.range s.cells.length).all (mCeB s)
def mEnB (p : Pr) (s : Sy) (i : Nat) : Bool :=
  plB (enN s i).task s.tasks.length && inB (enN s i).when_ 0 s.clock && inB (enN s i).from_ 0 i && puB (enN s i).reads s.cells.length && puB (enN s i).puts s.cells.length && plB (enN s i).act (acts p (tkN s (enN s i).task.toNat)).length
def mLgB (p : Pr) (s : Sy) : Bool := (List.range s.log.length).all (mEnB p s)
def mSoB (p : Pr) (s : Sy) : Bool := okB p && decide (s.cells.length = p.cells.length) && inB s.tasks.length 1 7 && inB s.clock 0 200 && (List.range s.tasks.length).all (mTkB p s) && mCesB s && mLgB p s

end Go.Proofs.YtdgihncobihbgaaGreat
