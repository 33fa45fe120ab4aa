/- AutoHides holds of the program: the walks of its reference, its law and the program's Hide, and the card. -/
import Derived.WalkKit
import Derived.Deep.Quiet
import Derived.StillTail
import Derived.Deep.OwnRows
import Derived.Laws.AppendOwn
import Derived.Maps.AppendAt
import Derived.KernelRfl
import Derived.Deep.LoopGhost
import Derived.Laws.StructEq
import Derived.Laws.MakeOwn
import Derived.ChangeKeysEq
import Derived.Test.YtndldmojkpjgoaaGreatDoorProg
import Derived.OrdersHeld
import Derived.WalkSmall
set_option maxRecDepth 100000
namespace Go.Proofs.YtndldmojkpjgoaaGreatDoor
section
open Go
abbrev Vp (b : Nat) : Value:=.pointer (some ⟨b,0,none⟩)
abbrev Vs (b l m : Nat) : Value:=.slice (some ⟨b,0,none⟩) l m
abbrev Vi (n : Int) : Value:=.int .i64 n
theorem anI {a b : Prop} (x : a) (y : b) : a ∧ b := ⟨x, y⟩
theorem exI {α : Sort _} {p : α → Prop} (w : α) (h : p w) : ∃ x, p x := ⟨w, h⟩
namespace Sym
inductive Und where
 | int (k : IntKind) | bool | str | ptr | slice (e : Nat) | arr (n e : Nat) | struct (fs : List (Nat × Nat)) | map (k e : Nat) | other
def Und.of : TypeDesc → Und
 | .int k=>.int k
 | .bool=>.bool
 | .string=>.str
 | .pointer _=>.ptr
 | .slice e=>.slice e
 | .array n e=>.arr n e
 | .struct fs=>.struct (fs.toList.map fun f=>(f.offset,f.type))
 | .map k e=>.map k e
 | _=>.other
structure TI where
 t : Nat
 und : Und
 size : Nat
 bytes : Nat
 zero : Value
abbrev Tab:=List TI
def TI.ok (P : Program) (e : TI) : Prop:=(P.underlying e.t).map Und.of = some e.und ∧ (P.info? e.t).map (fun i=>(i.size,i.bytes,i.zero)) = some (e.size,e.bytes,some e.zero)
def aar (a b : IntKind) : Bool:=match decEq a b with | isTrue _=>true | isFalse _=>false
def xb : List Value → Bool
 | []=>true
 | .int _ _ :: r=>xb r
 | _=>false
def jt (P : Program) : List Field → Nat → List Value → Bool
 | [],_,[]=>true
 | f :: fs, n, .int k _ :: zs => match decide (f.name ≠ "_"), Nat.beq f.offset n, P.underlying f.type with
   | true,true,some (.int k')=>aar k k' && jt P fs (n + 1) zs
   | _,_,_=>false
 | _,_,_=>false
def acn (P : Program) (n el : Nat) (zs : List Value) : Bool:=Nat.beq zs.length n && ((P.info? el).isSome && (Nat.beq (P.cellsOf el) 1 && match P.underlying el with
 | some (.int k)=>zs.all fun z=>match z with | .int k' _=>aar k' k | _=>false
 | _=>false))
def TI.cmp (P : Program) (e : TI) : Bool:=match e.und with
 | .struct _=>match xb e.zero.cells.toList with
   | true=>!P.eqGuardType P.depth e.t && (!P.stoodInHeld e.t && jt P (P.fieldsOf e.t).toList 0 e.zero.cells.toList)
   | false=>true
 | .arr n el=>match xb e.zero.cells.toList with
   | true=>!P.eqGuardType P.depth e.t && acn P n el e.zero.cells.toList
   | false=>true
 | _=>true
def Tab.ok (P : Program) : Tab → Prop
 | []=>True
 | e :: r=>(e.ok P ∧ e.cmp P = true) ∧ Tab.ok P r
noncomputable def Tab.get (T : Tab) (t : Nat) : Option TI:=
 List.rec (motive:=fun _=>Option TI) none (fun e _ ih=>match Nat.beq e.t t with | true=>some e | false=>ih) T
theorem Tab.get_cons (e : TI) (r : Tab) (t : Nat) : Tab.get (e :: r) t = match Nat.beq e.t t with | true=>some e | false=>Tab.get r t:=rfl
theorem Tab.get_ok {P : Program} : ∀ {T : Tab} {t : Nat} {e : TI},Tab.ok P T → Tab.get T t = some e → e.t = t ∧ e.ok P
 | [],_,_,_,h=>by cases h
 | x :: r,t,e,hT,h=>by
   rw [Tab.get_cons] at h
   split at h
   ·rename_i hb
    cases h
    exact ⟨Nat.eq_of_beq_eq_true hb,hT.1.1⟩
   ·exact Tab.get_ok hT.2 h
theorem Tab.get_cmp {P : Program} : ∀ {T : Tab} {t : Nat} {e : TI},Tab.ok P T → Tab.get T t = some e → e.cmp P = true
 | [],_,_,_,h=>by cases h
 | x :: r,t,e,hT,h=>by
   rw [Tab.get_cons] at h
   split at h
   ·cases h
    exact hT.1.2
   ·exact Tab.get_cmp hT.2 h
def d8 : List Value → List Value → List Value → Option Bool
 | [],[],[]=>some true
 | .int k _ :: z,.int k1 a :: x,.int k2 b :: y=>match aar k k1,aar k k2,d8 z x y with
   | true,true,some r=>some (decide (a = b) && r)
   | _,_,_=>none
 | _,_,_=>none
theorem mt {a b : IntKind} (h : aar a b = true) : a = b:=by
 unfold aar at h
 split at h
 ·assumption
 ·cases h
theorem xf {P : Program} (d : Nat) (X Y : Array Value) (w : World) : ∀ (fs : List Field) (n : Nat) (zs : List Value) (c : Bool),jt P fs n zs = true → d8 zs (X.toList.drop n) (Y.toList.drop n) = some c →
  (Op.eqFields (d + 1) X Y fs).run P w = .ok c w:=by
 intro fs
 induction fs with
 | nil=>
   intro n zs c hc he
   cases zs with
   | cons z r=>simp [jt] at hc
   | nil=>
     cases hx : X.toList.drop n <;> cases hy : Y.toList.drop n <;> rw [hx,hy] at he <;> simp [d8] at he
     subst he;simp [Op.eqFields]
 | cons f fs ih=>
   intro n zs c hc he
   cases zs with
   | nil=>simp [jt] at hc
   | cons z zs=>
     cases z <;> try (simp [jt] at hc; done)
     rename_i k z0;simp only [jt] at hc
     split at hc <;> try (cases hc; done)
     rename_i k' hname hoff hu;rw [Bool.and_eq_true] at hc;obtain rfl:=mt hc.1;have hname:=of_decide_eq_true hname;have hoff:=Nat.eq_of_beq_eq_true hoff
     cases hx : X.toList.drop n with
     | nil=>rw [hx] at he; simp [d8] at he
     | cons x xr=>
       cases hy : Y.toList.drop n with
       | nil=>rw [hx,hy] at he; simp [d8] at he
       | cons y yr=>
         rw [hx,hy] at he
         cases x <;> try (simp [d8] at he; done)
         cases y <;> try (simp [d8] at he; done)
         rename_i k1 a k2 b;simp only [d8] at he
         split at he <;> try (cases he; done)
         rename_i r h1 h2 h3;obtain rfl:=mt h1;obtain rfl:=mt h2
         have ex : X[n]? = some (.int k a):=by
          have:=congrArg (fun l=>l[0]?) hx
          simpa using this
         have ey : Y[n]? = some (.int k b):=by
          have:=congrArg (fun l=>l[0]?) hy
          simpa using this
         have exr : X.toList.drop (n + 1) = xr:=by rw [← List.drop_drop,hx]; rfl
         have eyr : Y.toList.drop (n + 1) = yr:=by rw [← List.drop_drop,hy]; rfl
         have p1 : (part f.type X f.offset).run P w = .ok (.int k a) w:=by rw [hoff]; simp [part,isAgg,run_underlying hu,ex]
         have p2 : (part f.type Y f.offset).run P w = .ok (.int k b) w:=by rw [hoff]; simp [part,isAgg,run_underlying hu,ey]
         have p3:=run_equalIn_int w d f.type k k a b hu;have hrest:=ih (n + 1) zs r hc.2 (by rw [exr,eyr]; exact h3);simp only [Option.some.injEq] at he;subst he;simp only [Op.eqFields,hname,ne_eq,not_false_eq_true,if_true,Sem.run_bind,p1,p2,p3,Result.andThen_ok]
         by_cases hab : a = b
         ·subst hab
          simpa using hrest
         ·simp [hab]
abbrev Env:=List (Nat × Value)
noncomputable def look (E : Env) (t : Nat) : Option Value:=
 List.rec (motive:=fun _=>Option Value) none (fun p _ ih=>Prod.rec (fun s v=>match Nat.beq s t with | true=>some v | false=>ih) p) E
theorem si (s : Nat) (v : Value) (r : Env) (t : Nat) : look ((s,v) :: r) t = match Nat.beq s t with | true=>some v | false=>look r t:=rfl
def Has (a : Act) (E : Env) : Prop:=∀ t v,look E t = some v → a.tmps[t]? = some v
def Sub (E : Env) : Env → Prop
 | []=>True
 | (s,v) :: r=>look E s = some v ∧ Sub E r
theorem Sub.look {E : Env} : ∀ {E' : Env} {t : Nat} {v : Value},Sub E E' → look E' t = some v → look E t = some v
 | [],_,_,_,h=>by cases h
 | (p,u) :: r,t,v,hs,h=>by
   rw [Sym.si] at h
   split at h
   ·rename_i hb
    cases h
    rw [← Nat.eq_of_beq_eq_true hb];exact hs.1
   ·exact Sub.look hs.2 h
structure St (N : Nat) (a : Act) (E : Env) : Prop where
 size : a.tmps.size = N
 defers : a.defers = []
 has : Has a E
theorem St.sub {N : Nat} {a : Act} {E E' : Env} (h : St N a E) (hs : Sub E E') : St N a E':=⟨h.size,h.defers,fun _ _ hl=>h.has _ _ (hs.look hl)⟩
def upd (E : Env) : Option Nat → Value → Env
 | some t,v=>(t,v) :: E
 | none,_=>E
def k9 (N : Nat) : Option Nat → Bool
 | some t=>Nat.blt t N
 | none=>true
theorem St.put {N : Nat} {a : Act} {E : Env} (h : St N a E) {d : Option Nat} (hd : k9 N d = true) (v : Value) : St N (a.put d v) (upd E d v):=by
 cases d with
 | none=>exact h
 | some t=>
   have ht : t < a.tmps.size:=by rw [h.size]; exact Nat.le_of_ble_eq_true hd
   refine ⟨by simp [Act.put,h.size],by simp [Act.put,h.defers],fun t' v' hl=>?_⟩;simp only [upd,Sym.si] at hl;simp only [Act.put]
   split at hl
   ·rename_i hb
    cases hl
    rw [← Nat.eq_of_beq_eq_true hb];simp [ht]
   ·rename_i hb;have hne : t ≠ t':=by intro e; subst e; simp at hb
    rw [Array.getElem?_setIfInBounds_ne hne];exact h.has _ _ hl
noncomputable def opd (E : Env) : Operand → Option Value
 | .tmp t=>look E t
 | .const v=>some v
 | .global g=>some (.pointer (some ⟨g,0,none⟩))
 | .func f=>some (.func (.func f) #[] #[])
theorem bi {N : Nat} {a : Act} {E : Env} (h : St N a E) {x : Operand} {v : Value} (hx : opd E x = some v) : a.eval x = v:=by
 cases x with
 | tmp t=>
   have:=h.has _ _ hx
   simp [Act.eval,Array.getD_eq_getD_getElem?,this]
 | const u=>simpa [opd,Act.eval] using hx
 | global g=>simpa [opd,Act.eval] using hx
 | func f=>simpa [opd,Act.eval] using hx
noncomputable def opds (E : Env) (l : List Operand) : Option (List Value):=
 List.rec (motive:=fun _=>Option (List Value)) (some []) (fun x _ ih=>match opd E x with
  | some v=>match ih with
    | some vs=>some (v :: vs)
    | none=>none
  | none=>none) l
theorem af2 (E : Env) (x : Operand) (r : List Operand) : opds E (x :: r) = match opd E x with
  | some v=>match opds E r with
    | some vs=>some (v :: vs)
    | none=>none
  | none=>none:=rfl
theorem ic {N : Nat} {a : Act} {E : Env} (h : St N a E) : ∀ {l : List Operand} {vs : List Value},opds E l = some vs → l.map a.eval = vs
 | [],_,hx=>by cases hx; rfl
 | x :: r,vs,hx=>by
   rw [af2] at hx
   split at hx
   ·rename_i v hv
    split at hx
    ·rename_i us hu
     cases hx
     simp [bi h hv,ic h hu]
    ·cases hx
   ·cases hx
def optK (x : Option Value) (k : Value → Prop) : Prop:=match x with | some v=>k v | none=>False
def ca (cell : Addr → Option Value) (b o : Nat) : List Value → Prop
 | []=>True
 | v :: r=>cell ⟨b,o,none⟩ = some v ∧ ca cell b (o + 1) r
def akf (op : BinOp) (K : IntKind) (a b : Int) (k : Value → Prop) : Prop:=
 match op with
 | .eql=>∃ c,decide (a = b) = c ∧ k (.bool c)
 | .neq=>∃ c,decide (a ≠ b) = c ∧ k (.bool c)
 | .lss=>∃ c,decide (a < b) = c ∧ k (.bool c)
 | .leq=>∃ c,decide (a ≤ b) = c ∧ k (.bool c)
 | .gtr=>∃ c,decide (b < a) = c ∧ k (.bool c)
 | .geq=>∃ c,decide (b ≤ a) = c ∧ k (.bool c)
 | .add=>∃ m,K.wrap (a + b) = m ∧ k (.int K m)
 | .sub=>∃ m,K.wrap (a - b) = m ∧ k (.int K m)
 | .mul=>∃ m,K.wrap (a * b) = m ∧ k (.int K m)
 | .rem=>b ≠ 0 ∧ ∃ m,a.tmod b = m ∧ k (.int K m)
 | .quo=>b ≠ 0 ∧ ∃ m,K.wrap (a.tdiv b) = m ∧ k (.int K m)
 | .and=>∃ m,K.wrap ((BitVec.ofInt K.bits a &&& BitVec.ofInt K.bits b).toNat : Int) = m ∧ k (.int K m)
 | .or=>∃ m,K.wrap ((BitVec.ofInt K.bits a ||| BitVec.ofInt K.bits b).toNat : Int) = m ∧ k (.int K m)
 | .shr=>0 ≤ b ∧ ∃ m,a.fdiv (2 ^ (min b.toNat K.bits)) = m ∧ k (.int K m)
 | _=>False
def aca (op : BinOp) (K : IntKind) (a b : Int) (k : Value → Prop) : Prop:=
 match op,b with
 | .shl,.ofNat n=>∃ m,K.wrap (a * 2 ^ (min n K.bits)) = m ∧ k (.int K m)
 | .shr,.ofNat n=>∃ m,a.fdiv (2 ^ (min n K.bits)) = m ∧ k (.int K m)
 | _,_=>False
def ikeq : IntKind → IntKind → Bool
 | .i8,.i8 | .i16,.i16 | .i32,.i32 | .i64,.i64 | .u8,.u8 | .u16,.u16 | .u32,.u32 | .u64,.u64=>true
 | _,_=>false
theorem ikeq_eq {a b : IntKind} (h : ikeq a b = true) : a = b:=by cases a <;> cases b <;> first | rfl | cases h
noncomputable def re (T : Tab) (fs : List (Nat × Nat)) : Option (List (Nat × Nat)):=
 List.rec (motive:=fun _=>Option (List (Nat × Nat))) (some []) (fun p _ ih=>match Tab.get T p.2,ih with
  | some e,some r=>some ((p.1,e.size) :: r)
  | _,_=>none) fs
theorem wo (T : Tab) (p : Nat × Nat) (r : List (Nat × Nat)) : re T (p :: r) = match Tab.get T p.2,re T r with
  | some e,some r=>some ((p.1,e.size) :: r)
  | _,_=>none:=rfl
def th (E : Env) (x : Option Operand) (d l : Nat) : Prop:=match x with
 | none=>l = d
 | some y=>∃ kk z,opd E y = some (.int kk z) ∧ z = (l : Int)
noncomputable def fv (T : Tab) (E : Env) (cell : Addr → Option Value) (o : Op) (k : Value → Prop) : Prop:=
 match o with
 | .move x | .assign x=>optK (opd E x) k
 | .pick c a b=>match opd E c with
   | some (.bool true)=>optK (opd E a) k
   | some (.bool false)=>optK (opd E b) k
   | _=>False
 | .load t x=>match opd E x,Tab.get T t with
   | some (.pointer (some ⟨b,o,none⟩)),some e=>match e.und with
     | .struct _ | .arr _ _=>∃ vs : List Value,vs.length = e.size ∧ ca cell b o vs ∧ k (.agg vs.toArray)
     | _=>∃ v,cell ⟨b,o,none⟩ = some v ∧ k v
   | _,_=>False
 | .nilCheck x=>match opd E x with
   | some (.pointer (some a))=>k (.pointer (some a))
   | _=>False
 | .binOp op t x y _=>match opd E x,opd E y with
   | some (.int k1 a),some (.int k2 b)=>match ikeq k1 k2 with
     | true=>akf op k1 a b k
     | false=>aca op k1 a b k
   | some (.bool a),some (.bool b)=>match op,(Tab.get T t).map TI.und with
     | .eql,some .bool=>∃ c,(a == b) = c ∧ k (.bool c)
     | .neq,some .bool=>∃ c,(a != b) = c ∧ k (.bool c)
     | _,_=>False
   | some (.slice a _ _),some (.slice none 0 0)=>match op,(Tab.get T t).map TI.und with
     | .eql,some (.slice _)=>k (.bool a.isNone)
     | .neq,some (.slice _)=>k (.bool !a.isNone)
     | _,_=>False
   | some (.agg xs),some (.agg ys)=>match op,Tab.get T t with
     | .eql,some e=>match e.und with
       | .struct _=>∃ c,d8 e.zero.cells.toList xs.toList ys.toList = some c ∧ k (.bool c)
       | .arr _ _=>∃ c,d8 e.zero.cells.toList xs.toList ys.toList = some c ∧ k (.bool c)
       | _=>False
     | .neq,some e=>match e.und with
       | .struct _=>∃ c,d8 e.zero.cells.toList xs.toList ys.toList = some c ∧ k (.bool (!c))
       | _=>False
     | _,_=>False
   | _,_=>False
 | .unOp .not _ x=>match opd E x with
   | some (.bool b)=>k (.bool (!b))
   | _=>False
 | .unOp .neg _ x=>match opd E x with
   | some (.int K n)=>∃ m,K.wrap (0 - n) = m ∧ k (.int K m)
   | _=>False
 | .fieldAddr s x f=>match opd E x,Tab.get T s with
   | some (.pointer (some ⟨b,o,none⟩)),some e=>match e.und with
     | .struct fs=>match fs[f]? with
       | some (off,ft)=>match Tab.get T ft with
         | some e'=>match Nat.beq e'.size 0 with
           | true=>False
           | false=>k (.pointer (some ⟨b,o + off,none⟩))
         | none=>False
       | none=>False
     | _=>False
   | _,_=>False
 | .field s x f=>match opd E x,Tab.get T s with
   | some (.agg cs),some e=>match e.und with
     | .struct fs=>match fs[f]? with
       | some (off,ft)=>match Tab.get T ft with
         | some e'=>match e'.und with
           | .struct _ | .arr _ _=>k (.agg (cs.extract off (off + e'.size)))
           | _=>optK cs.toList[off]? k
         | none=>False
       | none=>False
     | _=>False
   | _,_=>False
 | .indexAddr t x i=>match opd E x,opd E i,Tab.get T t with
   | some (.slice (some ⟨b,o,none⟩) n _),some (.int _ z),some e=>match e.und with
     | .slice el=>match Tab.get T el with
       | some e'=>∃ j : Nat,z = (j : Int) ∧ j < n ∧ k (.pointer (some ⟨b,o + (match e'.size with | 1=>j | s=>j * s),none⟩))
       | none=>False
     | _=>False
   | some (.pointer (some ⟨b,o,none⟩)),some (.int _ z),some e=>match e.und with
     | .arr n el=>match Tab.get T el with
       | some e'=>∃ j : Nat,z = (j : Int) ∧ j < n ∧ k (.pointer (some ⟨b,o + (match e'.size with | 1=>j | s=>j * s),none⟩))
       | none=>False
     | _=>False
   | _,_,_=>False
 | .extract x i=>match opd E x with
   | some (.tuple vs)=>optK vs.toList[i]? k
   | _=>False
 | .convert s t x=>match opd E x,Tab.get T s,Tab.get T t with
   | some (.int _ n),some _,some e=>match e.und with
     | .int q=>∃ m,q.wrap n = m ∧ k (.int q m)
     | _=>False
   | _,_,_=>False
 | .slice t x lo hi none=>match opd E x,Tab.get T t with
   | some (.slice a n c),some e=>match e.und with
     | .slice el=>match Tab.get T el with
       | some e'=>∃ l h : Nat,th E lo 0 l ∧ th E hi n h ∧ l ≤ h ∧ h ≤ c ∧ n ≤ c ∧ k (.slice (if c = l then a else a.map (·.add (l * e'.size))) (h - l) (c - l))
       | none=>False
     | _=>False
   | _,_=>False
 | .build t parts=>match Tab.get T t with
   | some e=>match e.und with
     | .struct fs=>match re T fs,opds E (parts.toList.map (·.2)) with
       | some pl,some vs=>optK ((Instr.fill (fun i=>pl[i]?) e.zero.cells ((parts.toList.map (·.1)).zip vs)).map Value.agg) k
       | _,_=>False
     | .arr _ el=>match parts.toList,Tab.get T el with
       | [],some _=>k (.agg e.zero.cells)
       | _,_=>False
     | _=>False
   | none=>False
 | .makeFunc fn first cap=>match opds E first.toList,opds E cap.toList with
   | some vs,some us=>k (.func fn vs.toArray us.toArray)
   | _,_=>False
 | .call c=>match c.callee with
   | .builtin .len=>match c.args.toList,c.argTypes.toList with
     | [x],[t]=>match opd E x,Tab.get T t with
       | some (.slice _ n _),some e=>match e.und with
         | .slice _=>k (.int .i64 n)
         | _=>False
       | _,_=>False
     | _,_=>False
   | .builtin .max=>match c.args.toList with
     | [x,y]=>match opd E x,opd E y with
       | some (.int k1 a),some (.int _ b)=>∃ m,(if b > a then b else a) = m ∧ k (.int k1 m)
       | _,_=>False
     | _=>False
   | .builtin .min=>match c.args.toList with
     | [x,y]=>match opd E x,opd E y with
       | some (.int k1 a),some (.int _ b)=>∃ m,(if b < a then b else a) = m ∧ k (.int k1 m)
       | _,_=>False
     | _=>False
   | _=>False
 | _=>False
section
variable {P : Program} {T : Tab} {N : Nat} {a : Act} {E : Env}
theorem ox {e : TI} (h : e.ok P) : ∃ d,P.underlying e.t = some d ∧ Und.of d = e.und:=Option.map_eq_some_iff.1 h.1
theorem oo {e : TI} (h : e.ok P) : ∃ i,P.info? e.t = some i ∧ i.size = e.size ∧ i.bytes = e.bytes ∧ i.zero = some e.zero:=by
 obtain ⟨i,hi,he⟩:=Option.map_eq_some_iff.1 h.2;simp only [Prod.mk.injEq] at he;exact ⟨i,hi,he.1,he.2.1,he.2.2⟩
theorem jr {e : TI} (h : e.ok P) (w : World) : (isAgg e.t).run P w = .ok (match e.und with | .struct _ | .arr _ _=>true | _=>false) w:=by
 obtain ⟨d,hd,hu⟩:=ox h;rw [← hu];simp only [isAgg,Sem.run_bind,run_underlying hd,Result.andThen_ok]
 cases d <;> rfl
theorem dz {e : TI} (h : e.ok P) (w : World) : (sizeOf e.t).run P w = .ok e.size w:=by
 obtain ⟨i,hi,hs,_⟩:=oo h;simp [sizeOf,typeInfo,hi,hs]
theorem ix {cell : Addr → Option Value} : ∀ {vs : List Value} {b o : Nat},ca cell b o vs → ∀ j v,vs[j]? = some v → cell ⟨b,o + j,none⟩ = some v
 | [],_,_,_,j,v,h=>by simp at h
 | x :: r,b,o,hc,0,v,h=>by
   simp only [List.getElem?_cons_zero,Option.some.injEq] at h;subst h;exact hc.1
 | x :: r,b,o,hc,j + 1,v,h=>by
   have:=ix hc.2 j v (by simpa using h)
   rw [show o + (j + 1) = o + 1 + j by omega];exact this
def no (P : Program) (a : Act) (o : Oper) (cell : Addr → Option Value) (k : Value → Prop) : Prop:=
 ∃ v,(∀ w : World,(∀ x u,cell x = some u → w.cell? x = some u) → (execOp a.eval o).run P w = .ok (.value v) w) ∧ k v
theorem afr (hT : Tab.ok P T) (h : St N a E) {o : Oper} {cell : Addr → Option Value} {k : Value → Prop} {t : TypeId} {x : Operand} (ho : o.op = .load t x)
  (hp : fv T E cell (.load t x) k) : no P a o cell k:=by
 simp only [fv] at hp
 split at hp
 ·rename_i b of e hx he;obtain ⟨rfl,hok⟩:=Tab.get_ok hT he;have hx':=bi h hx
  have key : ∀ (vs : List Value) ,vs.length = e.size → ca cell b of vs → (match e.und with | .struct _ | .arr _ _=>true | _=>false) = true →
    ∀ w : World,(∀ x u,cell x = some u → w.cell? x = some u) → (execOp a.eval o).run P w = .ok (.value (.agg vs.toArray)) w:=by
   intro vs hl hc hag w hw
   have hcs:=run_loadCells_list (P:=P) w ⟨b,of,none⟩ vs (fun j v hj=>by
    have:=hw _ _ (ix hc j v hj)
    unfold Addr.add
    split
    ·rename_i h0; subst h0; simpa using this
    ·simpa using this)
   simp only [execOp,ho,hx',Instr.loadAt,Instr.sureAddr,loadVar,Sem.run_bind,Sem.run_pure,Result.andThen_ok,jr hok,hag,if_true,dz hok,← hl,hcs]
  split at hp
  ·rename_i hu;obtain ⟨vs,hl,hc,hk⟩:=hp;exact ⟨_,key vs hl hc (by rw [hu]),hk⟩
  ·rename_i hu;obtain ⟨vs,hl,hc,hk⟩:=hp;exact ⟨_,key vs hl hc (by rw [hu]),hk⟩
  ·rename_i hn1 hn2;obtain ⟨v,hc,hk⟩:=hp;refine ⟨v,fun w hw=>?_,hk⟩
   have hag : (match e.und with | .struct _ | .arr _ _=>true | _=>false) = false:=by
    split
    ·rename_i hu; exact (hn1 _ hu).elim
    ·rename_i hu; exact (hn2 _ _ hu).elim
    ·rfl
   have hc' : w.cell? ⟨b,of,none⟩ = some v:=hw _ _ hc;simp only [execOp,ho,hx',Instr.loadAt,Instr.sureAddr,loadVar,Sem.run_bind,Sem.run_pure,Result.andThen_ok,jr hok];simp [load,Sem.run,hc']
 ·exact hp.elim
theorem abm {e : TI} (h : e.ok P) (hu : e.und = .bool) : P.underlying e.t = some .bool:=by
 obtain ⟨d,hd,he⟩:=ox h;rw [hu] at he
 cases d <;> first | exact hd | (simp [Und.of] at he)
theorem i0 {e : TI} {x : Nat} (h : e.ok P) (hu : e.und = .slice x) : P.underlying e.t = some (.slice x):=by
 obtain ⟨d,hd,he⟩:=ox h;rw [hu] at he
 cases d <;> first | (simp [Und.of] at he; done) | (simp only [Und.of,Und.slice.injEq] at he; subst he; exact hd)
theorem mh {e : TI} {x : List (Nat × Nat)} (h : e.ok P) (hu : e.und = .struct x) : ∃ fs,P.underlying e.t = some (.struct fs) ∧ fs.toList.map (fun f=>(f.offset,f.type)) = x:=by
 obtain ⟨d,hd,he⟩:=ox h;rw [hu] at he
 cases d <;> first | (simp [Und.of] at he; done) | (simp only [Und.of,Und.struct.injEq] at he; exact ⟨_,hd,he⟩)
theorem zr {e : TI} {n x : Nat} (h : e.ok P) (hu : e.und = .arr n x) : P.underlying e.t = some (.array n x):=by
 obtain ⟨d,hd,he⟩:=ox h;rw [hu] at he
 cases d <;> first | (simp [Und.of] at he; done) | (simp only [Und.of,Und.arr.injEq] at he; obtain ⟨rfl,rfl⟩:=he; exact hd)
theorem q5 (d : Nat) {t : TypeId} (ht : P.underlying t = some .bool) (a b : Bool) (w : World) : (Op.equalIn (d + 1) t (.bool a) (.bool b)).run P w = .ok (a == b) w:=by
 simp [Op.equalIn,run_underlying ht]
theorem nl {t : TypeId} (ht : P.underlying t = some .bool) (a b : Bool) (w : World) : (Op.equal t (.bool a) (.bool b)).run P w = .ok (a == b) w:=q5 9999 ht a b w
theorem p5 (d : Nat) {t e : TypeId} (ht : P.underlying t = some (.slice e)) (a : Option Addr) (l c : Nat) (w : World) : (Op.equalIn (d + 1) t (.slice a l c) (.slice none 0 0)).run P w = .ok a.isNone w:=by
 cases a <;> simp [Op.equalIn,run_underlying ht]
theorem lm {t e : TypeId} (ht : P.underlying t = some (.slice e)) (a : Option Addr) (l c : Nat) (w : World) : (Op.equal t (.slice a l c) (.slice none 0 0)).run P w = .ok a.isNone w:=p5 9999 ht a l c w
theorem vg : ∀ (zs xs ys : List Value) (c : Bool),d8 zs xs ys = some c → xb zs = true:=by
 intro zs
 induction zs with
 | nil=>intros; rfl
 | cons z r ih=>
   intro xs ys c h
   cases z <;> try (simp [d8] at h; done)
   cases xs with
   | nil=>simp [d8] at h
   | cons x xr=>
     cases ys with
     | nil=>cases x <;> simp [d8] at h
     | cons y yr=>
       cases x <;> try (simp [d8] at h; done)
       cases y <;> try (simp [d8] at h; done)
       simp only [d8] at h
       split at h <;> try (cases h; done)
       rename_i r' h1 h2 h3;exact ih _ _ _ h3
theorem za {P : Program} {e : TI} {fs : List (Nat × Nat)} {X Y : Array Value} {c : Bool} (hok : e.ok P) (hcmp : e.cmp P = true) (hu : e.und = .struct fs) (hc : d8 e.zero.cells.toList X.toList Y.toList = some c) :
  P.eqGuardType P.depth e.t = false ∧ (P.underlying e.t = some (.struct (P.fieldsOf e.t)) ∧ P.stoodInHeld e.t = false) ∧ ∀ w,(Op.eqFields 9999 X Y (P.fieldsOf e.t).toList).run P w = .ok c w:=by
 unfold TI.cmp at hcmp;rw [hu,vg _ _ _ _ hc] at hcmp;simp only [Bool.and_eq_true,Bool.not_eq_true'] at hcmp;obtain ⟨f,hf,_⟩:=mh hok hu;exact ⟨hcmp.1,⟨by simp [Program.fieldsOf,hf],hcmp.2.1⟩,fun w=>xf 9998 X Y w _ 0 _ c hcmp.2.2 (by simpa using hc)⟩
theorem yw {P : Program} {el : Nat} {k : IntKind} (d : Nat) (hu : P.underlying el = some (.int k)) (hc : P.cellsOf el = 1) (X Y : Array Value) (w : World) : ∀ (zs : List Value) (n : Nat) (c : Bool),(zs.all fun z=>match z with | .int k' _=>aar k' k | _=>false) = true → d8 zs (X.toList.drop n) (Y.toList.drop n) = some c →
  (Op.eqItems (d + 1) el (P.cellsOf el) X Y (List.range' n zs.length)).run P w = .ok c w:=by
 intro zs
 induction zs with
 | nil=>
   intro n c _ he
   cases hx : X.toList.drop n <;> cases hy : Y.toList.drop n <;> rw [hx,hy] at he <;> simp [d8] at he
   subst he;simp [Op.eqItems]
 | cons z zs ih=>
   intro n c hz he;rw [List.all_cons,Bool.and_eq_true] at hz
   cases z <;> try (simp at hz; done)
   rename_i k' z0;obtain rfl:=mt hz.1
   cases hx : X.toList.drop n with
   | nil=>rw [hx] at he; simp [d8] at he
   | cons x xr=>
     cases hy : Y.toList.drop n with
     | nil=>rw [hx,hy] at he; cases x <;> simp [d8] at he
     | cons y yr=>
       rw [hx,hy] at he
       cases x <;> try (simp [d8] at he; done)
       cases y <;> try (simp [d8] at he; done)
       rename_i k1 a k2 b;simp only [d8] at he
       split at he <;> try (cases he; done)
       rename_i r h1 h2 h3;obtain rfl:=mt h1;obtain rfl:=mt h2
       have ex : X[n]? = some (.int k' a):=by
        have:=congrArg (fun l=>l[0]?) hx
        simpa using this
       have ey : Y[n]? = some (.int k' b):=by
        have:=congrArg (fun l=>l[0]?) hy
        simpa using this
       have exr : X.toList.drop (n + 1) = xr:=by rw [← List.drop_drop,hx]; rfl
       have eyr : Y.toList.drop (n + 1) = yr:=by rw [← List.drop_drop,hy]; rfl
       have p1 : (part el X (n * P.cellsOf el)).run P w = .ok (.int k' a) w:=by rw [hc,Nat.mul_one]; simp [part,isAgg,run_underlying hu,ex]
       have p2 : (part el Y (n * P.cellsOf el)).run P w = .ok (.int k' b) w:=by rw [hc,Nat.mul_one]; simp [part,isAgg,run_underlying hu,ey]
       have p3:=run_equalIn_int (P:=P) w d el k' k' a b hu;have hrest:=ih (n + 1) r hz.2 (by rw [exr,eyr]; exact h3);simp only [Option.some.injEq] at he;subst he;rw [List.length_cons,List.range'_succ];simp only [Op.eqItems,Sem.run_bind,p1,p2,p3,Result.andThen_ok]
       by_cases hab : a = b
       ·subst hab
        simpa using hrest
       ·simp [hab]
theorem cmp_arr {P : Program} {e : TI} {n el : Nat} {X Y : Array Value} {c : Bool} (hok : e.ok P) (hcmp : e.cmp P = true) (hu : e.und = .arr n el) (hc : d8 e.zero.cells.toList X.toList Y.toList = some c) :
  P.eqGuardType P.depth e.t = false ∧ ∀ w,(Op.equalIn 10000 e.t (.agg X) (.agg Y)).run P w = .ok c w:=by
 unfold TI.cmp at hcmp;rw [hu,vg _ _ _ _ hc] at hcmp;simp only [Bool.and_eq_true,Bool.not_eq_true',acn] at hcmp;obtain ⟨h1,h2,h3,h4,h5⟩:=hcmp;have hs:=zr hok hu;obtain ⟨i,hi⟩:=Option.isSome_iff_exists.1 h3;have hl:=Nat.eq_of_beq_eq_true h2;have h4:=Nat.eq_of_beq_eq_true h4
 split at h5
 ·rename_i k hk;refine ⟨h1,fun w=>?_⟩;rw [run_equalIn_array w 9999 X Y hs hi,List.range_eq_range',← hl];exact yw 9998 hk h4 X Y w _ 0 c h5 (by simpa using hc)
 ·cases h5
theorem adc (hT : Tab.ok P T) (h : St N a E) {o : Oper} {cell : Addr → Option Value} {k : Value → Prop} {op : BinOp} {t ty : TypeId} {x y : Operand} (ho : o.op = .binOp op t x y ty)
  (hp : fv T E cell (.binOp op t x y ty) k) : no P a o cell k:=by
 simp only [fv] at hp
 split at hp
 ·rename_i k1 m k2 n hx hy
  split at hp
  rotate_left
  ·have hx':=bi h hx;have hy':=bi h hy;unfold aca at hp
   split at hp
   ·rename_i s;obtain ⟨c,hc,hk⟩:=hp;refine ⟨_,fun w _=>?_,hk⟩;subst hc;have h0 : ¬ (Int.ofNat s < 0):=by simp
    simp only [execOp,ho,hx',hy',eqGuard,binOp,Op.shift,h0,if_false];simp
   ·rename_i s;obtain ⟨c,hc,hk⟩:=hp;refine ⟨_,fun w _=>?_,hk⟩;subst hc;have h0 : ¬ (Int.ofNat s < 0):=by simp
    simp only [execOp,ho,hx',hy',eqGuard,binOp,Op.shift,h0,if_false];simp
   ·exact hp.elim
  ·rename_i hk;have hk:=ikeq_eq hk;subst hk;have hx':=bi h hx;have hy':=bi h hy;unfold akf at hp
   split at hp <;> first
    | exact hp.elim
    | (obtain ⟨c,hc,hk⟩:=hp
       refine ⟨_,fun w _=>?_,hk⟩;subst hc;simp [execOp,ho,hx',hy',eqGuard,binOp,Op.intCmp,Op.intArith,Op.intBits]
       done)
    | (obtain ⟨c,hc,hk⟩:=hp
       refine ⟨_,fun w _=>?_,hk⟩;subst hc;simp [execOp,ho,hx',hy',eqGuard,binOp,Op.intCmp];rw [Bool.eq_iff_iff];simp
       done)
    | (obtain ⟨hb,c,hc,hk⟩:=hp
       refine ⟨_,fun w _=>?_,hk⟩;subst hc;simp [execOp,ho,hx',hy',eqGuard,binOp,Op.intDiv,hb]
       done)
    | (obtain ⟨hb,c,hc,hk⟩:=hp
       refine ⟨_,fun w _=>?_,hk⟩;subst hc;simp [execOp,ho,hx',hy',eqGuard,binOp,Op.shift,Int.not_lt.2 hb]
       done)
 ·rename_i m n hx hy;have hx':=bi h hx;have hy':=bi h hy
  split at hp
  ·rename_i hu;obtain ⟨e,he,hu2⟩:=Option.map_eq_some_iff.1 hu;obtain ⟨rfl,hok⟩:=Tab.get_ok hT he;have hb:=abm hok hu2;obtain ⟨c,hc,hk⟩:=hp;refine ⟨_,fun w _=>?_,hk⟩;subst hc;simp [execOp,ho,hx',hy',eqGuard,binOp,nl hb]
  ·rename_i hu;obtain ⟨e,he,hu2⟩:=Option.map_eq_some_iff.1 hu;obtain ⟨rfl,hok⟩:=Tab.get_ok hT he;have hb:=abm hok hu2;obtain ⟨c,hc,hk⟩:=hp;refine ⟨_,fun w _=>?_,hk⟩;subst hc;simp [execOp,ho,hx',hy',eqGuard,binOp,nl hb,bne]
  ·exact hp.elim
 ·rename_i ad l c hx hy;have hx':=bi h hx;have hy':=bi h hy
  split at hp
  ·rename_i hu;obtain ⟨e,he,hu2⟩:=Option.map_eq_some_iff.1 hu;obtain ⟨rfl,hok⟩:=Tab.get_ok hT he;have hb:=i0 hok hu2;refine ⟨_,fun w _=>?_,hp⟩;simp [execOp,ho,hx',hy',eqGuard,binOp,lm hb]
  ·rename_i hu;obtain ⟨e,he,hu2⟩:=Option.map_eq_some_iff.1 hu;obtain ⟨rfl,hok⟩:=Tab.get_ok hT he;have hb:=i0 hok hu2;refine ⟨_,fun w _=>?_,hp⟩;simp [execOp,ho,hx',hy',eqGuard,binOp,lm hb]
  ·exact hp.elim
 ·rename_i xs ys hx hy;have hx':=bi h hx;have hy':=bi h hy
  split at hp
  ·rename_i e he
   split at hp
   ·rename_i fs hu;obtain ⟨c,hc,hk⟩:=hp;obtain ⟨g1,g2,g3⟩:=za (Tab.get_ok hT he).2 (Tab.get_cmp hT he) hu hc;obtain ⟨rfl,hok⟩:=Tab.get_ok hT he;refine ⟨_,fun w _=>?_,hk⟩;simp only [execOp,ho,hx',hy',Sem.run_bind,run_eqGuard_agg w _ _ _ _ _ _ g1,Result.andThen_ok,run_eql_struct,run_equalIn_agg w 9999 _ _ _ g2.1 g2.2,g3 w];rfl
   ·rename_i n el hu;obtain ⟨c,hc,hk⟩:=hp;obtain ⟨g1,g2⟩:=cmp_arr (Tab.get_ok hT he).2 (Tab.get_cmp hT he) hu hc;obtain ⟨rfl,hok⟩:=Tab.get_ok hT he;refine ⟨_,fun w _=>?_,hk⟩;simp only [execOp,ho,hx',hy',Sem.run_bind,run_eqGuard_agg w _ _ _ _ _ _ g1,Result.andThen_ok,run_eql_struct,g2 w];rfl
   ·exact hp.elim
  ·rename_i e he
   split at hp
   ·rename_i fs hu;obtain ⟨c,hc,hk⟩:=hp;obtain ⟨g1,g2,g3⟩:=za (Tab.get_ok hT he).2 (Tab.get_cmp hT he) hu hc;obtain ⟨rfl,hok⟩:=Tab.get_ok hT he;refine ⟨_,fun w _=>?_,hk⟩;simp only [execOp,ho,hx',hy',Sem.run_bind,run_eqGuard_agg w _ _ _ _ _ _ g1,Result.andThen_ok,run_neq_struct,run_equalIn_agg w 9999 _ _ _ g2.1 g2.2,g3 w];rfl
   ·exact hp.elim
  ·exact hp.elim
 ·exact hp.elim
theorem jb {x : Option Value} {k : Value → Prop} (h : optK x k) : ∃ v,x = some v ∧ k v:=by
 cases x with
 | none=>exact h.elim
 | some v=>exact ⟨v,rfl,h⟩
theorem ud (hT : Tab.ok P T) (h : St N a E) {o : Oper} {cell : Addr → Option Value} {k : Value → Prop} {s : TypeId} {x : Operand} {f : Nat} (ho : o.op = .fieldAddr s x f)
  (hp : fv T E cell (.fieldAddr s x f) k) : no P a o cell k:=by
 simp only [fv] at hp
 split at hp
 ·rename_i b of e hx he;obtain ⟨rfl,hok⟩:=Tab.get_ok hT he;have hx':=bi h hx
  split at hp
  ·rename_i fs hu;obtain ⟨fs',hs,hfs⟩:=mh hok hu
   split at hp
   ·rename_i off ft hf;rw [← hfs,List.getElem?_map,Option.map_eq_some_iff] at hf;obtain ⟨fd,hfd,hfe⟩:=hf;simp only [Prod.mk.injEq] at hfe;obtain ⟨rfl,rfl⟩:=hfe;have hfd' : fs'[f]? = some fd:=by simpa using hfd
    split at hp
    ·rename_i e' he';obtain ⟨ht',hok'⟩:=Tab.get_ok hT he'
     split at hp
     ·exact hp.elim
     ·rename_i hz;have hz' : e'.size ≠ 0:=Nat.ne_of_beq_eq_false hz;refine ⟨_,fun w _=>?_,hp⟩;have hsz:=dz hok' w;rw [ht'] at hsz;simp only [execOp,ho,hx',Instr.fieldAt,Instr.sureAddr,fieldPlace,Sem.run_bind,Sem.run_pure,Result.andThen_ok,run_underlying hs,hfd',hsz,hz',if_false]
      congr 3
      unfold Addr.add
      split
      ·rename_i h0; simp [h0]
      ·rfl
    ·exact hp.elim
   ·exact hp.elim
  ·exact hp.elim
 ·exact hp.elim
theorem ada (hT : Tab.ok P T) (h : St N a E) {o : Oper} {cell : Addr → Option Value} {k : Value → Prop} {s : TypeId} {x : Operand} {f : Nat} (ho : o.op = .field s x f)
  (hp : fv T E cell (.field s x f) k) : no P a o cell k:=by
 simp only [fv] at hp
 split at hp
 ·rename_i cs e hx he;obtain ⟨rfl,hok⟩:=Tab.get_ok hT he;have hx':=bi h hx
  split at hp
  ·rename_i fs hu;obtain ⟨fs',hs,hfs⟩:=mh hok hu
   split at hp
   ·rename_i off ft hf;rw [← hfs,List.getElem?_map,Option.map_eq_some_iff] at hf;obtain ⟨fd,hfd,hfe⟩:=hf;simp only [Prod.mk.injEq] at hfe;obtain ⟨rfl,rfl⟩:=hfe;have hfd' : fs'[f]? = some fd:=by simpa using hfd
    split at hp
    ·rename_i e' he';obtain ⟨ht',hok'⟩:=Tab.get_ok hT he';have hag:=fun w=>jr hok' w;have hsz:=fun w=>dz hok' w;simp only [ht'] at hag hsz
     split at hp
     ·rename_i hu';refine ⟨_,fun w _=>?_,hp⟩;simp only [execOp,ho,hx',Instr.field,part,asAgg,Sem.run_bind,Sem.run_pure,Result.andThen_ok,run_underlying hs,hfd',hag,hsz,hu',if_true]
     ·rename_i hu';refine ⟨_,fun w _=>?_,hp⟩;simp only [execOp,ho,hx',Instr.field,part,asAgg,Sem.run_bind,Sem.run_pure,Result.andThen_ok,run_underlying hs,hfd',hag,hsz,hu',if_true]
     ·rename_i hn1 hn2;obtain ⟨v,hv,hk⟩:=jb hp;refine ⟨_,fun w _=>?_,hk⟩
      have hfalse : (match e'.und with | .struct _ | .arr _ _=>true | _=>false) = false:=by
       split
       ·rename_i hu; exact (hn1 _ hu).elim
       ·rename_i hu; exact (hn2 _ _ hu).elim
       ·rfl
      have hv' : cs[fd.offset]? = some v:=by simpa using hv
      simp [execOp,ho,hx',Instr.field,part,asAgg,run_underlying hs,hfd',hag,hv']
    ·exact hp.elim
   ·exact hp.elim
  ·exact hp.elim
 ·exact hp.elim
theorem ub (hT : Tab.ok P T) (h : St N a E) {o : Oper} {cell : Addr → Option Value} {k : Value → Prop} {t : TypeId} {x i : Operand} (ho : o.op = .indexAddr t x i)
  (hp : fv T E cell (.indexAddr t x i) k) : no P a o cell k:=by
 simp only [fv] at hp
 split at hp
 ·rename_i b of n c ki z e hx hi he;obtain ⟨rfl,hok⟩:=Tab.get_ok hT he;have hx':=bi h hx;have hi':=bi h hi
  split at hp
  ·rename_i el hu;have hs:=i0 hok hu
   split at hp
   ·rename_i e' he';obtain ⟨ht',hok'⟩:=Tab.get_ok hT he';have hsz:=fun w=>dz hok' w;simp only [ht'] at hsz;obtain ⟨j,rfl,hj,hk⟩:=hp;refine ⟨_,fun w _=>?_,hk⟩;have hjj : (0 : Int) ≤ (j : Int) ∧ (j : Int) < (n : Int):=⟨by omega,by omega⟩;simp only [execOp,ho,hx',hi',Instr.indexAt,asIntOf,Sem.run_bind,Sem.run_pure,Result.andThen_ok,run_underlying hs,hjj,and_self,if_true,hsz,Int.toNat_natCast]
    congr 3
    unfold Addr.add
    split
    ·rename_i h0
     split
     ·rename_i h1; rw [h1] at h0; simp at h0; simp [h0]
     ·simp [h0]
    ·split
     ·rename_i h1; simp [h1]
     ·rfl
   ·exact hp.elim
  ·exact hp.elim
 ·rename_i b of ki z e hx hi he;obtain ⟨rfl,hok⟩:=Tab.get_ok hT he;have hx':=bi h hx;have hi':=bi h hi
  split at hp
  ·rename_i n el hu;have hs:=zr hok hu
   split at hp
   ·rename_i e' he';obtain ⟨ht',hok'⟩:=Tab.get_ok hT he';have hsz:=fun w=>dz hok' w;simp only [ht'] at hsz;obtain ⟨j,rfl,hj,hk⟩:=hp;refine ⟨_,fun w _=>?_,hk⟩;have hjj : (0 : Int) ≤ (j : Int) ∧ (j : Int) < (n : Int):=⟨by omega,by omega⟩;simp only [execOp,ho,hx',hi',Instr.indexAt,asIntOf,Instr.sureAddr,Sem.run_bind,Sem.run_pure,Result.andThen_ok,run_underlying hs,hjj,and_self,if_true,hsz,Int.toNat_natCast]
    congr 3
    unfold Addr.add
    split
    ·rename_i h0
     split
     ·rename_i h1; rw [h1] at h0; simp at h0; simp [h0]
     ·simp [h0]
    ·split
     ·rename_i h1; simp [h1]
     ·rfl
   ·exact hp.elim
  ·exact hp.elim
 ·exact hp.elim
theorem aip (hT : Tab.ok P T) (h : St N a E) {o : Oper} {cell : Addr → Option Value} {k : Value → Prop} {c : Call} (ho : o.op = .call c)
  (hp : fv T E cell (.call c) k) : no P a o cell k:=by
 simp only [fv] at hp
 split at hp
 ·rename_i hc
  split at hp
  ·rename_i x t hargs htys
   split at hp
   ·rename_i ad n cp e hx he;obtain ⟨rfl,hok⟩:=Tab.get_ok hT he;have hx':=bi h hx
    split at hp
    ·rename_i el hu;have hs:=i0 hok hu;refine ⟨_,fun w _=>?_,hp⟩;have ha : c.args = #[x]:=by rw [← Array.toArray_toList (xs:=c.args),hargs]
     have hty : c.argTypes = #[e.t]:=by rw [← Array.toArray_toList (xs:=c.argTypes),htys]
     obtain ⟨cal,ar,at'⟩:=c;simp only at hc ha hty;subst hc ha hty;simp [execOp,ho,resolve,invoke,builtin,Builtin.len_,hx',run_underlying hs,goInt]
    ·exact hp.elim
   ·exact hp.elim
  ·exact hp.elim
 ·rename_i hc
  split at hp
  ·rename_i x y hargs
   split at hp
   ·rename_i k1 m k2 n hx hy;have hx':=bi h hx;have hy':=bi h hy;obtain ⟨z,hz,hk⟩:=hp;refine ⟨_,fun w _=>?_,hk⟩;have ha : c.args = #[x,y]:=by rw [← Array.toArray_toList (xs:=c.args),hargs]
    obtain ⟨cal,ar,at'⟩:=c;simp only at hc ha;subst hc ha hz;simp [execOp,ho,resolve,invoke,builtin,hx',hy',run_max_int2]
   ·exact hp.elim
  ·exact hp.elim
 ·rename_i hc
  split at hp
  ·rename_i x y hargs
   split at hp
   ·rename_i k1 m k2 n hx hy;have hx':=bi h hx;have hy':=bi h hy;obtain ⟨z,hz,hk⟩:=hp;refine ⟨_,fun w _=>?_,hk⟩;have ha : c.args = #[x,y]:=by rw [← Array.toArray_toList (xs:=c.args),hargs]
    obtain ⟨cal,ar,at'⟩:=c;simp only at hc ha;subst hc ha hz;simp [execOp,ho,resolve,invoke,builtin,hx',hy',run_min_int2]
   ·exact hp.elim
  ·exact hp.elim
 ·exact hp.elim
theorem uw (hT : Tab.ok P T) : ∀ (l : List Field) (pl : List (Nat × Nat)),re T (l.map fun f=>(f.offset,f.type)) = some pl → ∀ w : World,
  (l.mapM (m:=Sem) (fun f=>do pure (f.offset,← sizeOf f.type))).run P w = .ok pl w
 | [],pl,h,w=>by cases h; simp
 | f :: r,pl,h,w=>by
   rw [List.map_cons,wo] at h
   split at h
   ·rename_i e rr he hr
    cases h
    obtain ⟨ht,hok⟩:=Tab.get_ok hT he;have hsz:=dz hok w;simp only [ht] at hsz;have ih:=uw hT r rr hr w;simp only [List.mapM_cons,Sem.run_bind,hsz,Result.andThen_ok,Sem.run_pure,ih]
   ·cases h
theorem adb (hT : Tab.ok P T) (h : St N a E) {o : Oper} {cell : Addr → Option Value} {k : Value → Prop} {t : TypeId} {parts : Array (Nat × Operand)} (ho : o.op = .build t parts)
  (hp : fv T E cell (.build t parts) k) : no P a o cell k:=by
 simp only [fv] at hp
 split at hp
 ·rename_i e he;obtain ⟨rfl,hok⟩:=Tab.get_ok hT he
  split at hp
  ·rename_i fs hu;obtain ⟨fs',hs,hfs⟩:=mh hok hu
   split at hp
   ·rename_i pl vs hpl hvs;obtain ⟨v,hv,hk⟩:=jb hp;obtain ⟨cells,hcells,rfl⟩:=Option.map_eq_some_iff.1 hv;refine ⟨_,fun w _=>?_,hk⟩;obtain ⟨i,hi,_,_,hz⟩:=oo hok;rw [← hfs] at hpl;have hpr:=uw hT fs'.toList pl hpl w;have hz' : (zeroValue e.t).run P w = .ok e.zero w:=by simp [zeroValue,typeInfo,hi,hz]
    have hparts : (parts.map fun (x : Nat × Operand)=>(x.1,a.eval x.2)).toList = (parts.toList.map (·.1)).zip vs:=by
     rw [← ic h hvs,Array.toList_map]
     have key : ∀ l : List (Nat × Operand),l.map (fun x=>(x.1,a.eval x.2)) = (l.map (·.1)).zip ((l.map (·.2)).map a.eval):=by
      intro l
      induction l with
      | nil=>rfl
      | cons x r ih=>rw [List.map_cons,ih]; rfl
     exact key _
    have hfill : Instr.fill (fun i=>pl.toArray[i]?) e.zero.cells (parts.map fun (x : Nat × Operand)=>(x.1,a.eval x.2)).toList = some cells:=by
     rw [hparts]; simpa using hcells
    have hm : (fs'.mapM (m:=Sem) (fun f=>do pure (f.offset,← sizeOf f.type))).run P w = .ok pl.toArray w:=by
     rw [Array.mapM_eq_mapM_toList];show ((fs'.toList.mapM (m:=Sem) (fun f=>do pure (f.offset,← sizeOf f.type))) >>= fun l=>pure l.toArray).run P w = _;simp only [Sem.run_bind,hpr,Result.andThen_ok,Sem.run_pure]
    simp only [execOp,ho,Instr.build,Sem.run_bind,hz',Result.andThen_ok,run_underlying hs,hm,hfill,Sem.run_pure]
   ·exact hp.elim
  ·rename_i n el hu
   split at hp
   ·rename_i e2 hl he2;obtain ⟨rfl,hok2⟩:=Tab.get_ok hT he2;have hs:=zr hok hu;obtain ⟨i,hi,_,_,hz⟩:=oo hok;have hz' : ∀ w : World,(zeroValue e.t).run P w = .ok e.zero w:=fun w=>by simp [zeroValue,typeInfo,hi,hz]
    obtain rfl : parts = #[]:=Array.toList_inj.1 hl;refine ⟨_,fun w _=>?_,hp⟩;simp [execOp,ho,Instr.build,hz',run_underlying hs,dz hok2,Instr.fill]
   ·exact hp.elim
  ·exact hp.elim
 ·exact hp.elim
theorem aeq {e : TI} {q : IntKind} (h : e.ok P) (hu : e.und = .int q) : P.underlying e.t = some (.int q):=by
 obtain ⟨d,hd,he⟩:=ox h;rw [hu] at he
 cases d <;> first | (simp [Und.of] at he; done) | (simp only [Und.of,Und.int.injEq] at he; subst he; exact hd)
theorem yj (hT : Tab.ok P T) (h : St N a E) {o : Oper} {cell : Addr → Option Value} {k : Value → Prop} {s t : TypeId} {x : Operand} (ho : o.op = .convert s t x)
  (hp : fv T E cell (.convert s t x) k) : no P a o cell k:=by
 simp only [fv] at hp
 split at hp
 ·rename_i q0 n e0 e hx he0 he;obtain ⟨rfl,hok0⟩:=Tab.get_ok hT he0;obtain ⟨rfl,hok⟩:=Tab.get_ok hT he;have hx':=bi h hx;obtain ⟨d,hd,_⟩:=ox hok0
  split at hp
  ·rename_i q hu;obtain ⟨m,hm,hk⟩:=hp;refine ⟨_,fun w _=>?_,hk⟩;subst hm;have hq : P.intKind e.t = q:=by simp [Program.intKind,aeq hok hu]
   have hr:=run_convert_int (P:=P) w e0.t e.t q0 n (by rw [hd]; rfl) (by rw [hq]; exact aeq hok hu);rw [hq] at hr;simp [execOp,ho,hx',hr]
  ·exact hp.elim
 ·exact hp.elim
theorem ac9 (hT : Tab.ok P T) (h : St N a E) {o : Oper} {cell : Addr → Option Value} {k : Value → Prop} {t : TypeId} {x : Operand} {lo hi : Option Operand} (ho : o.op = .slice t x lo hi none)
  (hp : fv T E cell (.slice t x lo hi none) k) : no P a o cell k:=by
 simp only [fv] at hp
 split at hp
 ·rename_i ad n c e hx he;obtain ⟨rfl,hok⟩:=Tab.get_ok hT he;have hx':=bi h hx
  split at hp
  ·rename_i el hu;have hsl:=i0 hok hu;have hel : P.elem e.t = el:=by simp [Program.elem,hsl]
   have hsl' : P.underlying e.t = some (.slice (P.elem e.t)):=by rw [hel]; exact hsl
   split at hp
   ·rename_i e' he';obtain ⟨rfl,hok'⟩:=Tab.get_ok hT he';obtain ⟨l,hh,hl,hhi,h1,h2,h3,hk⟩:=hp;refine ⟨_,fun w _=>?_,hk⟩;have hs:=dz hok' w;rw [← hel] at hs
    cases lo with
    | none=>
      simp only [th] at hl;subst hl
      cases hi with
      | none=>
        simp only [th] at hhi;subst hhi;simp [execOp,ho,hx',run_sliceAt_slice w e.t _ _ _ _ hsl',run_slice_all w e.t ad hh c hsl',hs,sliced]
      | some y=>
        obtain ⟨kk,z,hz,rfl⟩:=hhi;simp [execOp,ho,hx',bi h hz,run_sliceAt_slice w e.t _ _ _ _ hsl',run_slice_h w e.t ad n c hsl' kk hh (by omega) (by omega),hs,sliced]
    | some u=>
      obtain ⟨kk,z,hz,rfl⟩:=hl
      cases hi with
      | none=>
        simp only [th] at hhi;subst hhi;simp [execOp,ho,hx',bi h hz,run_sliceAt_slice w e.t _ _ _ _ hsl',run_slice_l w e.t ad hh c hsl' kk l (by omega) (by omega),hs,sliced]
      | some y=>
        obtain ⟨kk2,z2,hz2,rfl⟩:=hhi;simp [execOp,ho,hx',bi h hz,bi h hz2,run_sliceAt_slice w e.t _ _ _ _ hsl',run_slice_lh w e.t ad n c hsl' kk kk2 l hh (by omega) (by omega) (by omega),hs,sliced]
   ·exact hp.elim
  ·exact hp.elim
 ·exact hp.elim
theorem kt (hT : Tab.ok P T) (h : St N a E) {o : Oper} {cell : Addr → Option Value} {k : Value → Prop} (hp : fv T E cell o.op k) : no P a o cell k:=by
 cases ho : o.op <;> rw [ho] at hp
 case load t x=>exact afr hT h ho hp
 case binOp=>exact adc hT h ho hp
 case fieldAddr=>exact ud hT h ho hp
 case field=>exact ada hT h ho hp
 case indexAddr=>exact ub hT h ho hp
 case call=>exact aip hT h ho hp
 case build=>exact adb hT h ho hp
 case convert s t x=>exact yj hT h ho hp
 case slice t x lo hi mx=>
  cases mx with
  | none=>exact ac9 hT h ho hp
  | some _=>exact hp.elim
 case makeFunc fn first cap=>
  simp only [fv] at hp
  split at hp
  ·rename_i vs us hvs hus;refine ⟨_,fun w _=>?_,hp⟩;have h1 : first.map a.eval = vs.toArray:=by rw [← ic h hvs,← Array.toList_map,Array.toArray_toList]
   have h2 : cap.map a.eval = us.toArray:=by rw [← ic h hus,← Array.toList_map,Array.toArray_toList]
   simp [execOp,ho,Instr.makeFunc,h1,h2]
  ·exact hp.elim
 case move x=>
  obtain ⟨v,hv,hk⟩:=jb hp;exact ⟨v,fun w _=>by simp [execOp,ho,bi h hv],hk⟩
 case assign x=>
  obtain ⟨v,hv,hk⟩:=jb hp;exact ⟨v,fun w _=>by simp [execOp,ho,bi h hv],hk⟩
 case pick c x y=>
  simp only [fv] at hp
  split at hp
  ·rename_i hc;obtain ⟨v,hv,hk⟩:=jb hp;exact ⟨v,fun w _=>by simp [execOp,ho,bi h hv,bi h hc,asBool],hk⟩
  ·rename_i hc;obtain ⟨v,hv,hk⟩:=jb hp;exact ⟨v,fun w _=>by simp [execOp,ho,bi h hv,bi h hc,asBool],hk⟩
  ·exact hp.elim
 case nilCheck x=>
  simp only [fv] at hp
  split at hp
  ·rename_i ad hx;exact ⟨_,fun w _=>by simp [execOp,ho,bi h hx],hp⟩
  ·exact hp.elim
 case extract x i=>
  simp only [fv] at hp
  split at hp
  ·rename_i vs hx;obtain ⟨v,hv,hk⟩:=jb hp;have hv' : vs[i]? = some v:=by simpa using hv
   exact ⟨v,fun w _=>by simp [execOp,ho,bi h hx,Instr.extract,hv'],hk⟩
  ·exact hp.elim
 case unOp op t x=>
  cases op <;> simp only [fv] at hp
  case not=>
   split at hp
   ·rename_i b hx;exact ⟨_,fun w _=>by simp [execOp,ho,bi h hx,Op.unary],hp⟩
   ·exact hp.elim
  case neg=>
   split at hp
   ·rename_i K n hx;obtain ⟨m,rfl,hk⟩:=hp;exact ⟨_,fun w _=>by simp [execOp,ho,bi h hx,Op.unary,Op.intArith],hk⟩
   ·exact hp.elim
 all_goals exact hp.elim
end
def bk (P : Program) (n : Nat) : Bool:=match P.funcs[n]? with
 | some fn => fn.body.isSome && !(fn.name == "runtime.NumGoroutine")
 | none=>false
theorem qp {P : Program} {n : Nat} (h : bk P n = true) (args : Array Value) (w : World) : (callFunc n args).run P w = .ok (.enter n args) w:=by
 unfold bk at h
 split at h
 ·rename_i fn hf;simp only [Bool.and_eq_true,Bool.not_eq_true'] at h;have hb : fn.body.isNone = false:=by cases hb : fn.body <;> simp_all
  have hname:=h.2;have hprog : (program : Sem Program).run P w = .ok P w:=rfl;simp only [callFunc,Sem.run_bind,hprog,Result.andThen_ok,hf,hname,hb,Bool.false_eq_true,if_false,Sem.run_pure]
 ·cases h
def iz : List Value → Bool
 | []=>true
 | v :: r=>match v.oneCell' with | true=>iz r | false=>false
theorem kw : ∀ {l : List Value},iz l = true → ∀ v ∈ l,v.oneCell' = true
 | x :: r,h,v,hv=>by
   simp only [iz] at h
   split at h
   ·rename_i hx
    rcases List.mem_cons.1 hv with rfl | hv
    ·exact hx
    ·exact kw h v hv
   ·cases h
structure AppAsk (w : World) (e : TI) (v : Value) (n : Nat) (xs : List Value) (src : Value) (m : Nat) (news : List Value) (base : Nat) : Prop where
 own : w.ownsRow base e.t e.size v n xs
 src : ((src = .slice none 0 0 ∨ ∃ ad c,src = .slice (some ad) 0 c) ∧ m = 0 ∧ news = []) ∨ ∃ b o c,src = .slice (some ⟨b,o,none⟩) m c ∧ ca w.cell? b o news
 len : news.length = m * e.size
 one : ∀ u ∈ news,u.oneCell' = true
 fits : n + m ≤ 9223372036854775807
 bytes : (n + m) * e.bytes ≤ 140737488355328
 base : base ≤ w.heap.size
noncomputable def ir (P : Program) (T : Tab) (E : Env) (w : World) (o : Op) (k : Value → World → Prop) : Prop:=
 match o with
 | .box t x=>optK (opd E x) fun v=>k (.pointer (some ⟨w.heap.size,0,none⟩)) (w.alloc (.cells v.cells t))
 | .alloc t=>match Tab.get T t with
   | some e=>k (.pointer (some ⟨w.heap.size,0,none⟩)) (w.alloc (.cells e.zero.cells t))
   | none=>False
 | .store t x y=>match opd E x,opd E y,Tab.get T t with
   | some (.pointer (some ⟨b,of,none⟩)),some v,some e=>match Nat.beq e.size 1 with
     | true=>Nat.beq v.cells.size 1 = true ∧ iz v.cells.toList = true ∧ (∃ old,w.cell? ⟨b,of,none⟩ = some old) ∧ w.frozen? ⟨b,of,none⟩ = false ∧ k undef (w.setCell ⟨b,of,none⟩ (v.cells.getD 0 undef))
     | false=>v.cells.size = e.size ∧ iz v.cells.toList = true ∧ (∀ j,j < e.size → (w.cell? ⟨b,of + j,none⟩).isSome = true ∧ w.frozen? ⟨b,of + j,none⟩ = false) ∧ k undef (w.setCells b of v.cells.toList)
   | _,_,_=>False
 | .makeSlice t x y=>match opd E x,opd E y,Tab.get T t with
   | some (.int _ n),some (.int _ n'),some e=>match e.und with
     | .slice el=>match Tab.get T el with
       | some e'=>match Nat.beq e'.size 1 with
         | true=>∃ l m : Nat,n = (l : Int) ∧ n' = (m : Int) ∧ l ≤ m ∧ e'.size = 1 ∧ e'.zero.cells = #[e'.zero] ∧ e'.bytes * m ≤ 281474976710656 ∧ m ≤ 9223372036854775807 ∧ k (.slice (some ⟨w.heap.size,0,none⟩) l m) (w.alloc (.cells (madeCells #[e'.zero] m) el))
         | false=>∃ m : Nat,n = (m : Int) ∧ n' = (m : Int) ∧ e'.bytes * m ≤ 281474976710656 ∧ m ≤ 9223372036854775807 ∧ k (.slice (some ⟨w.heap.size,0,none⟩) m m) (w.alloc (.cells (madeCells e'.zero.cells (m * e'.size)) el))
       | none=>False
     | _=>False
   | _,_,_=>False
 | .buildSlice t len parts=>match Tab.get T t with
   | some e=>match e.und with
     | .slice el=>match Tab.get T el with
       | some e'=>∃ (ps : List (Nat × Value)) (cells : Array Value),(opds E (parts.toList.map (·.2)) = some (ps.map (·.2)) ∧ parts.toList.map (·.1) = ps.map (·.1)) ∧ len * e'.size ≤ 16777216 ∧
         Instr.fill (fun i=>some (i * e'.size,e'.size)) (madeCells (if len * e'.size = 0 then #[] else e'.zero.cells) (len * e'.size)) ps = some cells ∧ k (.slice (some ⟨w.heap.size,0,none⟩) len len) (w.alloc (.cells cells el))
       | none=>False
     | _=>False
   | none=>False
 | .makeMap _ r=>match r with
   | none=>k (.map (some w.heap.size)) (w.alloc (.map #[] 0))
   | some _=>False
 | .lookup t x i ok=>match opd E x,opd E i with
   | some m,some key=>∃ v,(Instr.lookup t m key ok).run P w = .ok v w ∧ k v w
   | _,_=>False
 | .mapUpdate t x i y=>match opd E x,opd E i,opd E y with
   | some m,some key,some v=>∃ w',(Instr.mapUpdate t m key v).run P w = .ok () w' ∧ k undef w'
   | _,_,_=>False
 | .call c=>match c.callee with
   | .value f=>match opd E f,opds E c.args.toList with
     | some (.func (.func n) first captured),some vs=>bk P n = true ∧ Calls P n (first.toList ++ vs ++ captured.toList).toArray w (fun e w'=>∃ v,e = .returned v ∧ k v w')
     | _,_=>False
   | .builtin .append=>match c.args.toList,c.argTypes.toList with
     | [s,x],[t,t']=>match Nat.beq t t',opd E s,opd E x,Tab.get T t with
       | true,some v,some src,some e=>match e.und with
         | .slice el=>match Tab.get T el with
           | some e'=>∃ n xs m news base,AppAsk w e' v n xs src m news base ∧ (∀ z,e'.zero.cells.size = z → z = e'.size) ∧ 0 < e'.size ∧
             ∀ v' w',w'.ownsRow base el e'.size v' (n + m) (xs ++ news) → w.grownBy w' v.ownBlock → (v' = .slice none 0 0 ↔ v = .slice none 0 0 ∧ m = 0) → (v'.ownBlock = v.ownBlock ∨ v'.ownBlock = some w.heap.size) → k v' w'
           | none=>False
         | _=>False
       | _,_,_,_=>False
     | _,_=>False
   | _=>fv T E w.cell? o (fun v=>k v w)
 | _=>fv T E w.cell? o (fun v=>k v w)
section
variable {P : Program} {T : Tab} {N : Nat} {a : Act} {E : Env}
theorem ed {o : Oper} {w w' : World} {v : Value} {next : Act → World → Prop} {Q : Exit → Act → World → Prop} (hr : (execOp a.eval o).run P w = .ok (.value v) w') (h : next (a.put o.dst v) w') : o.wp P a w next Q:=by
 unfold Oper.wp; rw [hr]; exact h
theorem lj {o : Oper} {w w' : World} {next : Act → World → Prop} {Q : Exit → Act → World → Prop} (hr : (execOp a.eval o).run P w = .ok .skip w') (h : next (a.put o.dst undef) w') : o.wp P a w next Q:=by
 unfold Oper.wp; rw [hr]; exact h
theorem aev (hT : Tab.ok P T) (h : St N a E) {o : Oper} {w : World} {k : Value → World → Prop} {next : Act → World → Prop} {Q : Exit → Act → World → Prop}
  (hp : fv T E w.cell? o.op (fun v=>k v w)) (hn : ∀ v w',k v w' → next (a.put o.dst v) w') : o.wp P a w next Q:=by
 obtain ⟨v,hr,hk⟩:=kt hT h hp;exact ed (hr w (fun _ _ h=>h)) (hn _ _ hk)
theorem aic (h : St N a E) {o : Oper} {w : World} {k : Value → World → Prop} {next : Act → World → Prop} {Q : Exit → Act → World → Prop} {t : TypeId} {x : Operand} (ho : o.op = .box t x)
  (hp : ir P T E w (.box t x) k) (hn : ∀ v w',k v w' → next (a.put o.dst v) w') : o.wp P a w next Q:=by
 obtain ⟨v,hv,hk⟩:=jb hp;refine ed (w':=w.alloc (.cells v.cells t)) ?_ (hn _ _ hk);simp [execOp,ho,bi h hv,Instr.box,newVar,newRow]
theorem ac1 (hT : Tab.ok P T) {o : Oper} {w : World} {k : Value → World → Prop} {next : Act → World → Prop} {Q : Exit → Act → World → Prop} {t : TypeId} (ho : o.op = .alloc t)
  (hp : ir P T E w (.alloc t) k) (hn : ∀ v w',k v w' → next (a.put o.dst v) w') : o.wp P a w next Q:=by
 simp only [ir] at hp
 split at hp
 ·rename_i e he;obtain ⟨rfl,hok⟩:=Tab.get_ok hT he;obtain ⟨i,hi,_,_,hz⟩:=oo hok;refine ed (w':=w.alloc (.cells e.zero.cells e.t)) ?_ (hn _ _ hp);simp [execOp,ho,Instr.alloc,zeroValue,typeInfo,hi,hz,newVar,newRow]
 ·exact hp.elim
theorem acz (hT : Tab.ok P T) (h : St N a E) {o : Oper} {w : World} {k : Value → World → Prop} {next : Act → World → Prop} {Q : Exit → Act → World → Prop} {t : TypeId} {x y : Operand} (ho : o.op = .store t x y)
  (hp : ir P T E w (.store t x y) k) (hn : ∀ v w',k v w' → next (a.put o.dst v) w') : o.wp P a w next Q:=by
 simp only [ir] at hp
 split at hp
 ·rename_i b of v e hx hy he;obtain ⟨rfl,hok⟩:=Tab.get_ok hT he;have hx':=bi h hx;have hy':=bi h hy;have hsz:=fun w=>dz hok w
  split at hp
  ·rename_i h1;have h1 : e.size = 1:=Nat.eq_of_beq_eq_true h1;obtain ⟨hv1,hone,⟨old,hold⟩,hfz,hk⟩:=hp;have hv1:=Nat.eq_of_beq_eq_true hv1
   obtain ⟨u,hu⟩ : ∃ u,v.cells = #[u]:=by
    obtain ⟨u,hu⟩:=Array.size_eq_one_iff.1 hv1;exact ⟨u,hu⟩
   rw [hu] at hone hk;have ho1 : u.oneCell' = true:=kw hone u (by simp);refine lj (w':=w.setCell ⟨b,of,none⟩ u) ?_ (hn _ _ (by simpa using hk));simp [execOp,ho,hx',hy',Instr.storeAt,Instr.sureAddr,storeVar,hsz,h1,hu,storeCells,run_store _ _ _ _ _ ho1,Addr.add,hold,hfz]
  ·obtain ⟨hv1,hone,hcs,hk⟩:=hp;refine lj (w':=w.setCells b of v.cells.toList) ?_ (hn _ _ hk);have hst:=run_storeCells_cells (P:=P) b of v.cells.toList 0 w (fun j hj=>by simpa using (hcs j (by simpa [hv1] using hj)).1) (fun j hj=>by simpa using (hcs j (by simpa [hv1] using hj)).2) (kw hone);simp [execOp,ho,hx',hy',Instr.storeAt,Instr.sureAddr,storeVar,hsz,hv1,hst]
 ·exact hp.elim
theorem ua (hT : Tab.ok P T) (h : St N a E) {o : Oper} {w : World} {k : Value → World → Prop} {next : Act → World → Prop} {Q : Exit → Act → World → Prop} {t : TypeId} {x y : Operand} (ho : o.op = .makeSlice t x y)
  (hp : ir P T E w (.makeSlice t x y) k) (hn : ∀ v w',k v w' → next (a.put o.dst v) w') : o.wp P a w next Q:=by
 simp only [ir] at hp
 split at hp
 ·rename_i k1 n k2 n' e hx hy he;obtain ⟨rfl,hok⟩:=Tab.get_ok hT he
  split at hp
  ·rename_i el hu;have hs:=i0 hok hu
   split at hp
   ·rename_i e' he';obtain ⟨rfl,hok'⟩:=Tab.get_ok hT he';obtain ⟨i,hi,his,hib,hiz⟩:=oo hok'
    split at hp
    rotate_left
    ·obtain ⟨m,rfl,rfl,hb,h63,hk⟩:=hp
     have hb' : (i.bytes : Int) * (m : Int) ≤ 281474976710656:=by
      have h : ((i.bytes * m : Nat) : Int) ≤ 281474976710656:=by rw [hib]; omega
      rwa [Int.natCast_mul] at h
     have hr:=run_make (P:=P) w e.t e'.t i e'.zero hs hi hiz k1 k2 m m (by omega) (by omega) hb' (by omega);simp only [Int.toNat_natCast,his] at hr;refine ed (w':=_) ?_ (hn _ _ hk);simp [execOp,ho,bi h hx,bi h hy,hr]
    obtain ⟨l,m,rfl,rfl,hlm,h1,hz,hb,h63,hk⟩:=hp
    have hb' : (i.bytes : Int) * (m : Int) ≤ 281474976710656:=by
     have h : ((i.bytes * m : Nat) : Int) ≤ 281474976710656:=by rw [hib]; omega
     rwa [Int.natCast_mul] at h
    have hr:=run_make (P:=P) w e.t e'.t i e'.zero hs hi hiz k1 k2 l m (by omega) (by omega) hb' (by omega);simp only [Int.toNat_natCast,his,h1,Nat.mul_one,hz] at hr;refine ed (w':=_) ?_ (hn _ _ hk);simp [execOp,ho,bi h hx,bi h hy,hr]
   ·exact hp.elim
  ·exact hp.elim
 ·exact hp.elim
theorem rl (hT : Tab.ok P T) (h : St N a E) {o : Oper} {w : World} {k : Value → World → Prop} {next : Act → World → Prop} {Q : Exit → Act → World → Prop} {t : TypeId} {len : Nat} {parts : Array (Nat × Operand)} (ho : o.op = .buildSlice t len parts)
  (hp : ir P T E w (.buildSlice t len parts) k) (hn : ∀ v w',k v w' → next (a.put o.dst v) w') : o.wp P a w next Q:=by
 simp only [ir] at hp
 split at hp
 ·rename_i e he;obtain ⟨rfl,hok⟩:=Tab.get_ok hT he
  split at hp
  ·rename_i el hu;have hs:=i0 hok hu
   split at hp
   ·rename_i e' he';obtain ⟨rfl,hok'⟩:=Tab.get_ok hT he';obtain ⟨ps,cells,⟨hps,hpi⟩,hsmall,hfill,hk⟩:=hp;obtain ⟨i,hi,his,hib,hiz⟩:=oo hok'
    have hpp : (parts.map fun (x : Nat × Operand)=>(x.1,a.eval x.2)).toList = ps:=by
     have h2:=ic h hps;rw [Array.toList_map]
     apply List.ext_getElem
     ·have:=congrArg List.length hpi
      simpa using this
     ·intro j h1 h2';have e1:=congrArg (fun l=>l[j]?) hpi;have e2:=congrArg (fun l=>l[j]?) h2;simp only [List.length_map,Array.length_toList] at h1;simp only [List.getElem?_map,List.map_map] at e1 e2;have hl : ps[j]? = some ps[j]:=List.getElem?_eq_getElem h2';simp [h1,hl] at e1 e2;simp [e1,e2]
    refine ed (w':=_) ?_ (hn _ _ hk);have hns : ¬ len * e'.size > 2 ^ 24:=by omega
    have hsz:=dz hok' w;have hpp' : List.map (fun (x : Nat × Operand)=>(x.1,a.eval x.2)) parts.toList = ps:=by simpa using hpp
    simp only [madeCells] at hfill;have hz : (zeroValue e'.t).run P w = .ok e'.zero w:=by simp [zeroValue,typeInfo,hi,hiz]
    by_cases h0 : len * e'.size = 0
    ·simp only [h0,if_true] at hfill;have hf : Instr.fill (fun i=>some (i * e'.size,e'.size)) (Array.map (fun _=>(default : Value)) (Array.range 0)) ps = some cells:=hfill;simp [execOp,ho,Instr.buildSlice,run_underlying hs,hsz,h0,hpp',hf,newRow]
    ·simp only [h0,if_false] at hfill;simp [execOp,ho,Instr.buildSlice,run_underlying hs,hsz,hns,h0,hz,hpp',hfill,newRow]
   ·exact hp.elim
  ·exact hp.elim
 ·exact hp.elim
theorem ac0 (h : St N a E) {o : Oper} {w : World} {k : Value → World → Prop} {next : Act → World → Prop} {Q : Exit → Act → World → Prop} {c : Call} {f : Operand} (ho : o.op = .call c) (hc : c.callee = .value f)
  (hp : ir P T E w (.call c) k) (hn : ∀ v w',k v w' → next (a.put o.dst v) w') : o.wp P a w next Q:=by
 simp only [ir,hc] at hp
 split at hp
 ·rename_i n first cap vs hf hvs;obtain ⟨hen,hcall⟩:=hp
  have hargs : (c.args.map a.eval) = vs.toArray:=by
   rw [← ic h hvs,← Array.toList_map,Array.toArray_toList]
  unfold Oper.wp
  have hr : (execOp a.eval o).run P w = .ok (.enter n (first.toList ++ vs ++ cap.toList).toArray) w:=by
   have he:=qp hen (first ++ vs.toArray ++ cap) w;simp only [execOp,ho,resolve,hc,bi h hf,Deferred.ofValue,Sem.run_bind,Sem.run_pure,Result.andThen_ok,invoke,hargs,he];simp
  rw [hr,Oper.upon_enter];refine hcall.mono ?_;rintro e w' ⟨v,rfl,hk⟩;exact hn _ _ hk
 ·exact hp.elim
theorem zv (hT : Tab.ok P T) (h : St N a E) {o : Oper} {w : World} {k : Value → World → Prop} {next : Act → World → Prop} {Q : Exit → Act → World → Prop} {c : Call} (ho : o.op = .call c) (hc : c.callee = .builtin .append)
  (hp : ir P T E w (.call c) k) (hn : ∀ v w',k v w' → next (a.put o.dst v) w') : o.wp P a w next Q:=by
 simp only [ir,hc] at hp
 split at hp
 ·rename_i s x t t' hargs htys
  split at hp
  ·rename_i v src e htt hs hx he;have htt:=Nat.eq_of_beq_eq_true htt;subst htt;obtain ⟨rfl,hok⟩:=Tab.get_ok hT he
   split at hp
   ·rename_i el hu;have hsl:=i0 hok hu
    split at hp
    ·rename_i e' he';obtain ⟨rfl,hok'⟩:=Tab.get_ok hT he';obtain ⟨n,xs,m,news,base,ask,hzs,hpos,hk⟩:=hp;obtain ⟨i,hi,his,hib,hiz⟩:=oo hok';have ha : c.args = #[s,x]:=by rw [← Array.toArray_toList (xs:=c.args),hargs]
     have hty : c.argTypes = #[e.t,e.t]:=by rw [← Array.toArray_toList (xs:=c.argTypes),htys]
     have hs':=bi h hs;have hx':=bi h hx
     rcases ask.src with ⟨rfl | ⟨ad,cp,rfl⟩,rfl,rfl⟩ | ⟨b,of,cp,rfl,hcs⟩
     ·have hrun:=run_append_owned_none (P:=P) (w:=w) base e.t o.type e'.t i e'.size hsl hi v n xs ask.own;refine ed (w':=w) ?_ (hn _ _ (hk v w (by simpa using ask.own) ⟨rfl,rfl,rfl,Nat.le_refl _,fun _ _ _=>rfl⟩ (by simp) (.inl rfl)));simp [execOp,ho,resolve,hc,invoke,builtin,ha,hty,hs',hx',hrun]
     ·obtain ⟨v',w',hr,h2,h3,h4,h5⟩:=run_append_own_at (P:=P) w base e.t o.type e'.t i e'.zero e'.size e'.bytes hsl hi hiz his hib (hzs _ rfl) hpos v n xs ask.own ad 0 cp [] (by simp)
       (fun j u hj=>by simp at hj) ask.one (by unfold maxLen; exact ask.fits) ask.bytes ask.base
      refine ed (w':=w') ?_ (hn _ _ (hk v' w' h2 h3 h4 h5));simp [execOp,ho,resolve,hc,invoke,builtin,ha,hty,hs',hx',hr]
     ·obtain ⟨v',w',hr,h2,h3,h4,h5⟩:=run_append_own_at (P:=P) w base e.t o.type e'.t i e'.zero e'.size e'.bytes hsl hi hiz his hib (hzs _ rfl) hpos v n xs ask.own ⟨b,of,none⟩ m cp news ask.len
       (fun j u hj=>by
        have:=ix hcs j u hj
        unfold Addr.add
        split
        ·rename_i h0; subst h0; simpa using this
        ·simpa using this) ask.one (by unfold maxLen; exact ask.fits) ask.bytes ask.base
      refine ed (w':=w') ?_ (hn _ _ (hk v' w' h2 h3 h4 h5));simp [execOp,ho,resolve,hc,invoke,builtin,ha,hty,hs',hx',hr]
    ·exact hp.elim
   ·exact hp.elim
  ·exact hp.elim
 ·exact hp.elim
theorem yd (t : TypeId) (w : World) : (Instr.makeMap t none).run P w = .ok (.map (some w.heap.size)) (w.alloc (.map #[] 0)):=rfl
theorem kn (hT : Tab.ok P T) (h : St N a E) {o : Oper} {w : World} {k : Value → World → Prop} {next : Act → World → Prop} {Q : Exit → Act → World → Prop}
  (hp : ir P T E w o.op k) (hn : ∀ v w',k v w' → next (a.put o.dst v) w') : o.wp P a w next Q:=by
 have hpure : fv T E w.cell? o.op (fun v=>k v w) → o.wp P a w next Q:=fun hp=>aev hT h hp hn
 cases ho : o.op
 case box=>rw [ho] at hp; exact aic h ho hp hn
 case alloc=>rw [ho] at hp; exact ac1 hT ho hp hn
 case store=>rw [ho] at hp; exact acz hT h ho hp hn
 case makeSlice=>rw [ho] at hp; exact ua hT h ho hp hn
 case buildSlice=>rw [ho] at hp; exact rl hT h ho hp hn
 case makeMap t r=>
  rw [ho] at hp
  cases r with
  | none=>
    refine ed (w':=w.alloc (.map #[] 0)) ?_ (hn _ _ hp);simp [execOp,ho,yd]
  | some _=>exact hp.elim
 case lookup t x i ok=>
  rw [ho] at hp;simp only [ir] at hp
  split at hp
  ·rename_i m key hx hi;obtain ⟨v,hr,hk⟩:=hp;exact ed (by simp [execOp,ho,bi h hx,bi h hi,hr]) (hn _ _ hk)
  ·exact hp.elim
 case mapUpdate t x i y=>
  rw [ho] at hp;simp only [ir] at hp
  split at hp
  ·rename_i m key v hx hi hy;obtain ⟨w',hr,hk⟩:=hp;exact lj (w':=w') (by simp [execOp,ho,bi h hx,bi h hi,bi h hy,hr]) (hn _ _ hk)
  ·exact hp.elim
 case call c=>
  cases hc : c.callee
  case value f=>rw [ho] at hp; exact ac0 h ho hc hp hn
  case builtin b=>
   cases b
   case append=>rw [ho] at hp; exact zv hT h ho hc hp hn
   all_goals (rw [ho] at hp; simp only [ir,hc] at hp; exact hpure (by rw [ho]; exact hp))
  case invoke=>rw [ho] at hp; simp only [ir,hc] at hp; exact hpure (by rw [ho]; exact hp)
 all_goals (rw [ho] at hp; exact hpure (by rw [ho]; exact hp))
end
noncomputable def gk (all : List Oper) (E : Env) : Option (Nat × Bool) → Option Bool
 | none=>some true
 | some (j,want)=>match all[j]? with
   | some o=>match o.dst with
     | some t=>match look E t with
       | some (.bool b)=>match b,want with
         | true,true | false,false=>some true
         | _,_=>some false
       | some (.tuple _)=>some false
       | _=>none
     | none=>none
   | none=>none
theorem dw {N : Nat} {a : Act} {E : Env} (h : St N a E) {all : Array Oper} {o : Oper} {g : Bool} (hg : gk all.toList E o.guard = some g) : Region.wanted o (yielded all a.tmps) = g:=by
 unfold Region.wanted
 cases ho : o.guard with
 | none=>rw [ho] at hg; simpa [gk] using hg
 | some p=>
   obtain ⟨j,want⟩:=p;rw [ho] at hg;simp only [gk] at hg
   split at hg
   ·rename_i o' ho';have ho'' : all[j]? = some o':=by simpa using ho'
    split at hg
    ·rename_i t ht
     split at hg
     ·rename_i b hb;have hb':=h.has _ _ hb;simp only [yielded,ho'',ht,Option.bind_some,hb']
      cases b <;> cases want <;> simp_all
     ·rename_i vs hb;have hb':=h.has _ _ hb;simp only [yielded,ho'',ht,Option.bind_some,hb']
      simp_all
     ·cases hg
    ·cases hg
   ·cases hg
noncomputable def opsK (P : Program) (T : Tab) (N : Nat) (all : List Oper) (K : Env → World → Prop) (l : List Oper) : Env → World → Prop:=
 List.rec (motive:=fun _=>Env → World → Prop) K (fun o _ ih E w=>match k9 N o.dst with
  | false=>False
  | true=>match gk all E o.guard with
    | some true=>ir P T E w o.op (fun v w'=>ih (upd E o.dst v) w')
    | some false=>ih (upd E o.dst undef) w
    | none=>False) l
theorem kf (P : Program) (T : Tab) (N : Nat) (all : List Oper) (K : Env → World → Prop) (o : Oper) (r : List Oper) (E : Env) (w : World) : opsK P T N all K (o :: r) E w = match k9 N o.dst with
  | false=>False
  | true=>match gk all E o.guard with
    | some true=>ir P T E w o.op (fun v w'=>opsK P T N all K r (upd E o.dst v) w')
    | some false=>opsK P T N all K r (upd E o.dst undef) w
    | none=>False:=rfl
section
variable {P : Program} {T : Tab} {N : Nat}
theorem mn (hT : Tab.ok P T) {all : Array Oper} {K : Env → World → Prop} {Q : Exit → Act → World → Prop} (hQ : ∀ E w a,K E w → St N a E → Q .normal a w) :
  ∀ (l : List Oper) (E : Env) (w : World) (a : Act),St N a E → opsK P T N all.toList K l E w → wpList P all Q l a w
 | [],E,w,a,h,hp=>hQ _ _ _ hp h
 | o :: r,E,w,a,h,hp=>by
   rw [kf] at hp
   split at hp
   ·exact hp.elim
   ·rename_i hd;simp only [wpList]
    split at hp
    ·rename_i hg;rw [dw h hg,if_pos rfl];exact .inl (kn hT h hp (fun v w' hk=>mn hT hQ r _ w' _ (h.put hd v) hk))
    ·rename_i hg;rw [dw h hg];exact mn hT hQ r _ w _ (h.put hd undef) hp
    ·exact hp.elim
noncomputable def zx (P : Program) (T : Tab) (E : Env) (w : World) (o : Op) (k : Value → Prop) : Prop:=
 match o with
 | .call c=>match c.callee with
   | .value f=>match opd E f,opds E c.args.toList with
     | some (.func (.func n) first captured),some vs=>bk P n = true ∧ ∃ v,(∀ w1,RowKit.Below w.heap.size w w1 → Calls P n (first.toList ++ vs ++ captured.toList).toArray w1 (fun e w2=>e = .returned v ∧ RowKit.Below w.heap.size w w2)) ∧ k v
     | _,_=>False
   | _=>fv T E w.cell? o k
 | _=>fv T E w.cell? o k
noncomputable def eb (P : Program) (T : Tab) (N : Nat) (all : List Oper) (w : World) (K : Env → Prop) (l : List Oper) : Env → Prop:=
 List.rec (motive:=fun _=>Env → Prop) K (fun o _ ih E=>match k9 N o.dst with
  | false=>False
  | true=>match gk all E o.guard with
    | some true=>zx P T E w o.op (fun v=>ih (upd E o.dst v))
    | some false=>ih (upd E o.dst undef)
    | none=>False) l
theorem ks (P : Program) (T : Tab) (N : Nat) (all : List Oper) (w : World) (K : Env → Prop) (o : Oper) (r : List Oper) (E : Env) : eb P T N all w K (o :: r) E = match k9 N o.dst with
  | false=>False
  | true=>match gk all E o.guard with
    | some true=>zx P T E w o.op (fun v=>eb P T N all w K r (upd E o.dst v))
    | some false=>eb P T N all w K r (upd E o.dst undef)
    | none=>False:=rfl
theorem qt {w w1 : World} (h : RowKit.Below w.heap.size w w1) : ∀ x u,w.cell? x = some u → w1.cell? x = some u:=fun x u hx=>by
 rw [h.cell (World.block_lt_of_cell? w x hx)]; exact hx
theorem zw (hT : Tab.ok P T) {a : Act} {E : Env} (h : St N a E) {o : Oper} {w : World} {k : Value → Prop} {next : Act → Prop} (hp : zx P T E w o.op k) (hn : ∀ v,k v → next (a.put o.dst v)) :
  o.quiet P a (RowKit.Below w.heap.size w) next:=by
 have hpure : fv T E w.cell? o.op k → o.quiet P a (RowKit.Below w.heap.size w) next:=fun hp=>by
  obtain ⟨v,hr,hk⟩:=kt hT h hp;refine ⟨v,fun w1 hw1=>?_,hn _ hk⟩;unfold Oper.quietAt;rw [hr w1 (qt hw1)];exact ⟨rfl,rfl⟩
 cases ho : o.op
 case call c=>
  rw [ho] at hp;simp only [zx] at hp
  split at hp
  ·rename_i f hc
   split at hp
   ·rename_i n first cap vs hf hvs;obtain ⟨hen,v,hcall,hk⟩:=hp;refine ⟨v,fun w1 hw1=>?_,hn _ hk⟩
    have hargs : (c.args.map a.eval) = vs.toArray:=by
     rw [← ic h hvs,← Array.toList_map,Array.toArray_toList]
    have hr : (execOp a.eval o).run P w1 = .ok (.enter n (first.toList ++ vs ++ cap.toList).toArray) w1:=by
     have he:=qp hen (first ++ vs.toArray ++ cap) w1;simp only [execOp,ho,resolve,hc,bi h hf,Deferred.ofValue,Sem.run_bind,Sem.run_pure,Result.andThen_ok,invoke,hargs,he];simp
    unfold Oper.quietAt;rw [hr];exact ⟨rfl,hcall w1 hw1⟩
   ·exact hp.elim
  ·exact hpure (by rw [ho]; exact hp)
 all_goals (rw [ho] at hp; exact hpure (by rw [ho]; exact hp))
theorem lp (hT : Tab.ok P T) {all : Array Oper} {w : World} {K : Env → Prop} {Q : Act → Prop} (hQ : ∀ E a,K E → St N a E → Q a) :
  ∀ (l : List Oper) (E : Env) (a : Act),St N a E → eb P T N all.toList w K l E → wpQuiet P all (RowKit.Below w.heap.size w) Q l a
 | [],E,a,h,hp=>hQ _ _ hp h
 | o :: r,E,a,h,hp=>by
   rw [ks] at hp
   split at hp
   ·exact hp.elim
   ·rename_i hd;simp only [wpQuiet]
    split at hp
    ·rename_i hg;rw [dw h hg,if_pos rfl];exact zw hT h hp (fun v hk=>lp hT hQ r _ _ (h.put hd v) hk)
    ·rename_i hg;rw [dw h hg];exact lp hT hQ r _ _ (h.put hd undef) hp
    ·exact hp.elim
def argE : Nat → List Value → Env
 | _,[]=>[]
 | i,v :: r=>(i,v) :: argE (i + 1) r
theorem sj : ∀ (l : List Value) (i t : Nat) (v : Value),look (argE i l) t = some v → ∃ j,t = i + j ∧ l[j]? = some v
 | [],i,t,v,h=>by cases h
 | x :: r,i,t,v,h=>by
   rw [show argE i (x :: r) = (i,x) :: argE (i + 1) r from rfl,si] at h
   split at h
   ·rename_i hb
    cases h
    exact ⟨0,by have:=Nat.eq_of_beq_eq_true hb; omega,rfl⟩
   ·obtain ⟨j,hj,hv⟩:=sj r (i + 1) t v h;exact ⟨j + 1,by omega,by simpa using hv⟩
theorem c8 {f : FuncId} {fn : Func} {c : Code} {args : List Value} {w : World} {R : Ending → World → Prop} (hf : P.funcs[f]? = some fn) (hb : fn.body = some c) (hN : fn.ntmps = N) (hl : Nat.ble args.length N = true)
  (h : ∀ a,St N a (argE 0 args) → c.wp P (bodyPost P fn R) a w) : Calls P f args.toArray w R:=by
 have hl':=Nat.le_of_ble_eq_true hl;refine calls_of_wp hf hb (h _ ⟨?_,rfl,fun t v ht=>?_⟩)
 ·simp [hN]; omega
 ·obtain ⟨j,rfl,hj⟩:=sj _ _ _ _ ht;have hlt : j < args.length:=(List.getElem?_eq_some_iff.1 hj).1;simp only [Nat.zero_add];rw [Array.getElem?_append_left (by simpa using hlt)]
  simpa using hj
theorem ie {a : Act} {E : Env} (h : St N a E) {t : Nat} {v : Value} (hl : look E t = some v) : a.tmps.getD t undef = v:=by
 have:=h.has _ _ hl
 simp [Array.getD_eq_getD_getElem?,this]
theorem ret1 {fn : Func} {R : Ending → World → Prop} {a : Act} {E : Env} {w : World} (h : St N a E) {t : Tmp} {v : Value} (hr : fn.results = #[.tmp t]) (hl : look E t = some v) (hR : R (.returned v) w) : bodyPost P fn R .ret a w:=
 ⟨h.defers,v,by rw [results_tmp hr,ie h hl],hR⟩
theorem ret2 {fn : Func} {R : Ending → World → Prop} {a : Act} {E : Env} {w : World} (h : St N a E) {t t2 : Tmp} {v v2 : Value} (hr : fn.results = #[.tmp t,.tmp t2]) (hl : look E t = some v) (hl2 : look E t2 = some v2) (hR : R (.returned (.tuple #[v,v2])) w) : bodyPost P fn R .ret a w:=
 ⟨h.defers,_,by rw [results_tmp2 hr,ie h hl,ie h hl2],hR⟩
theorem ret3 {fn : Func} {R : Ending → World → Prop} {a : Act} {E : Env} {w : World} (h : St N a E) {t t2 t3 : Tmp} {v v2 v3 : Value} (hr : fn.results = #[.tmp t,.tmp t2,.tmp t3]) (hl : look E t = some v) (hl2 : look E t2 = some v2) (hl3 : look E t3 = some v3)
  (hR : R (.returned (.tuple #[v,v2,v3])) w) : bodyPost P fn R .ret a w:=
 ⟨h.defers,_,by rw [results_tmp3 hr,ie h hl,ie h hl2,ie h hl3],hR⟩
theorem cond {c : Operand} {x y : Code} {Q : Exit → Act → World → Prop} {a : Act} {E : Env} {w : World} {b : Bool} (h : St N a E) (hc : opd E c = some (.bool b)) (ht : b = true → x.wp P Q a w) (hf : b = false → y.wp P Q a w) : (Code.cond c x y).wp P Q a w:=
 wp_cond_split (bi h hc) ht hf
theorem loop {Q : Exit → Act → World → Prop} {a : Act} {E : Env} {w : World} {c : Code} (h : St N a E) (I : Nat → Env → World → Prop) (n₀ : Nat) (E₀ : Env) (hs : Sub E E₀) (h₀ : I n₀ E₀ w)
  (round : ∀ n E w a,I n E w → St N a E → c.wp P (Exit.then (fun a' w'=>∃ n' E',n' < n ∧ I n' E' w' ∧ St N a' E') Q) a w) : (Code.loop c).wp P Q a w:=
 wp_loop_ghost (fun n a w=>∃ E,I n E w ∧ St N a E) n₀ ⟨E₀,h₀,h.sub hs⟩ (fun n a w ⟨E,hI,hS⟩=>wp_mono (round n E w a hI hS) (fun e a' w' hq=>by
  cases e with
  | normal=>obtain ⟨n',E',hlt,hI',hS'⟩:=hq; exact ⟨n',hlt,E',hI',hS'⟩
  | _=>exact hq))
end
section
variable {P : Program} {T : Tab} {N : Nat}
theorem ai (E' : Env) (R : World → Prop) (hT : Tab.ok P T) {id : Nat} {ops : Array Oper} {Q : Exit → Act → World → Prop} {a : Act} {E : Env} {w : World} (h : St N a E)
  (hk : opsK P T N ops.toList (fun E2 w2=>Sub E2 E' ∧ R w2) ops.toList E w) (hq : ∀ a' w',St N a' E' → R w' → Q .normal a' w') : (Code.region id ops false).wp P Q a w:=
 wp_region_list (mn hT (fun _ _ a' hK hs=>hq a' _ (hs.sub hK.1) hK.2) ops.toList E w a h hk)
theorem b6 (E' : Env) (hT : Tab.ok P T) (hm : P.follows .mixedOrders = true) {id : Nat} {ops : Array Oper} (hB : Region.lexB .any ops = true) {Q : Exit → Act → World → Prop} {a : Act} {E : Env} {w : World} (h : St N a E)
  (hk : eb P T N ops.toList w (fun E2=>Sub E2 E') ops.toList E) (hq : ∀ a' w',St N a' E' → RowKit.Below w.heap.size w w' → Q .normal a' w') : (Code.region id ops true).wp P Q a w:=
 wp_region_quiet (C:=RowKit.Below w.heap.size w) hm hB ((RowKit.Below.refl _ _).drew)
  (lp hT (fun _ a' hK hs w' hw'=>hq a' w' (hs.sub hK) hw') ops.toList E a h hk)
end
theorem aem {x y : Int} (h : x = y) (h1 : -9223372036854775808 ≤ y) (h2 : y ≤ 9223372036854775807) : IntKind.i64.wrap x = y:=by
 rw [h]; exact IntWalk.i64_in y ⟨h1,h2⟩
theorem ck {j : Nat} (h : j < 9223372036854775807) : IntKind.i64.wrap ((j : Int) + 1) = ((j + 1 : Nat) : Int):=aem (by omega) (by omega) (by omega)
theorem cz {P : Program} {N : Nat} {Q : Exit → Act → World → Prop} {a : Act} {E : Env} {w : World} {c : Code} (h : St N a E) (I : Nat → Env → World → Prop) (n₀ : Nat) (h₀ : I n₀ E w)
  (round : ∀ n E w a,I n E w → St N a E → c.wp P (Exit.then (fun a' w'=>∃ n' E',n' < n ∧ I n' E' w' ∧ St N a' E') Q) a w) : (Code.loop c).wp P Q a w:=
 wp_loop_ghost (fun n a w=>∃ E,I n E w ∧ St N a E) n₀ ⟨E,h₀,h⟩ (fun n a w ⟨E,hI,hS⟩=>wp_mono (round n E w a hI hS) (fun e a' w' hq=>by
  cases e with
  | normal=>obtain ⟨n',E',hlt,hI',hS'⟩:=hq; exact ⟨n',hlt,E',hI',hS'⟩
  | _=>exact hq))
section
variable {P : Program} {T : Tab} {N : Nat} {all : List Oper} {E : Env} {w : World} {o : Oper} {r : List Oper} {t : Nat}
noncomputable def goK (P : Program) (T : Tab) (N : Nat) (all : List Oper) (o : Oper) (E : Env) (w : World) (k : Nat → Value → World → Prop) : Prop:=
 match k9 N o.dst,o.dst,gk all E o.guard with
 | true,some t,some true=>ir P T E w o.op (k t)
 | _,_,_=>False
noncomputable def goK0 (P : Program) (T : Tab) (all : List Oper) (o : Oper) (E : Env) (w : World) (k : Value → World → Prop) : Prop:=
 match o.dst,gk all E o.guard with
 | none,some true=>ir P T E w o.op k
 | _,_=>False
noncomputable def goX (P : Program) (T : Tab) (N : Nat) (all : List Oper) (o : Oper) (E : Env) (w : World) (k : Nat → Value → World → Prop) : Prop :=
 match k9 N o.dst, o.dst, gk all E o.guard with
 | true, some t, some true => ir P T E w o.op (k t)
 | true, some t, some false => k t undef w
 | _, _, _ => False
noncomputable def gqX (P : Program) (T : Tab) (N : Nat) (all : List Oper) (o : Oper) (E : Env) (w : World) (k : Nat → Value → Prop) : Prop :=
 match k9 N o.dst, o.dst, gk all E o.guard with
 | true, some t, some true => zx P T E w o.op (k t)
 | true, some t, some false => k t undef
 | _, _, _ => False
noncomputable def goQ (P : Program) (T : Tab) (N : Nat) (all : List Oper) (o : Oper) (E : Env) (w : World) (k : Nat → Value → Prop) : Prop:=
 match k9 N o.dst,o.dst,gk all E o.guard with
 | true,some t,some true=>zx P T E w o.op (k t)
 | _,_,_=>False
noncomputable def skT (b : Bool) (N : Nat) (all : List Oper) (o : Oper) (E : Env) : Option Nat:=
 match k9 N o.dst,gk all E o.guard,b with
 | true,some true,true | true,some false,false=>o.dst
 | _,_,_=>none
theorem q9 {b : Bool} (h : skT b N all o E = some t) : k9 N o.dst = true ∧ o.dst = some t ∧ gk all E o.guard = some b:=by
 unfold skT at h
 split at h
 ·exact ⟨by assumption,h,by assumption⟩
 ·exact ⟨by assumption,h,by assumption⟩
 ·cases h
section
variable {K : Env → World → Prop}
theorem aj (h : K E w) : opsK P T N all K [] E w:=h
theorem b8 (hd : k9 N o.dst = true) (ht : o.dst = some t) (hg : gk all E o.guard = some true) (h : ir P T E w o.op (fun v w'=>opsK P T N all K r ((t,v) :: E) w')) : opsK P T N all K (o :: r) E w:=by
 rw [kf,hd,hg];simp only [ht];exact h
theorem cj (ht : o.dst = none) (hg : gk all E o.guard = some true) (h : ir P T E w o.op (fun _ w'=>opsK P T N all K r E w')) : opsK P T N all K (o :: r) E w:=by
 rw [kf,hg,ht];exact h
theorem o_go (h : goK P T N all o E w (fun t v w'=>opsK P T N all K r ((t,v) :: E) w')) : opsK P T N all K (o :: r) E w:=by
 unfold goK at h
 split at h
 ·rename_i hd ht hg; exact b8 hd ht hg h
 ·cases h
theorem o_go0 (h : goK0 P T all o E w (fun _ w'=>opsK P T N all K r E w')) : opsK P T N all K (o :: r) E w:=by
 unfold goK0 at h
 split at h
 ·rename_i ht hg; exact cj ht hg h
 ·cases h
theorem zK (hs : skT false N all o E = some t) (h : opsK P T N all K r ((t,undef) :: E) w) : opsK P T N all K (o :: r) E w:=by
 obtain ⟨hd,ht,hg⟩:=q9 hs;rw [kf,hd,hg];simp only [ht];exact h
theorem zP {v : Value} (hs : goK P T N all o E w = fun k=>k t v w) (h : opsK P T N all K r ((t,v) :: E) w) : opsK P T N all K (o :: r) E w:=
 o_go (by rw [hs]; exact h)
theorem zX {v : Value} (hs : goX P T N all o E w = fun k => k t v w) (h : opsK P T N all K r ((t, v) :: E) w) : opsK P T N all K (o :: r) E w := by
 have h2 : goX P T N all o E w (fun t v w' => opsK P T N all K r ((t, v) :: E) w') := by rw [hs]; exact h
 unfold goX at h2
 split at h2
 · rename_i hd ht hg; exact b8 hd ht hg h2
 · rename_i hd ht hg
   rw [kf, hd, hg];simp only [ht];exact h2
 · exact h2.elim
theorem zB {v : Value} {w1 : World} (hs : goK P T N all o E w = fun k=>k t v w1) (h : opsK P T N all K r ((t,v) :: E) w1) : opsK P T N all K (o :: r) E w:=
 o_go (by rw [hs]; exact h)
theorem zL {v : Value} {x : Addr} (hs : goK P T N all o E w = fun k=>∃ v,w.cell? x = some v ∧ k t v w) (hc : w.cell? x = some v) (h : opsK P T N all K r ((t,v) :: E) w) : opsK P T N all K (o :: r) E w:=
 o_go (by rw [hs]; exact ⟨v,hc,h⟩)
theorem zA (vs : List Value) {n b of : Nat} (hs : goK P T N all o E w = fun k=>∃ vs : List Value,vs.length = n ∧ ca w.cell? b of vs ∧ k t (.agg vs.toArray) w) (hl : vs.length = n) (hc : ca w.cell? b of vs)
  (h : opsK P T N all K r ((t,.agg vs.toArray) :: E) w) : opsK P T N all K (o :: r) E w:=
 o_go (by rw [hs]; exact ⟨vs,hl,hc,h⟩)
theorem zC {e c : Bool} (hs : goK P T N all o E w = fun k=>∃ c,e = c ∧ k t (.bool c) w) (hc : e = c) (h : opsK P T N all K r ((t,.bool c) :: E) w) : opsK P T N all K (o :: r) E w:=
 o_go (by rw [hs]; exact ⟨c,hc,h⟩)
theorem zN {e m : Int} {k' : IntKind} (hs : goK P T N all o E w = fun k=>∃ m,e = m ∧ k t (.int k' m) w) (hc : e = m) (h : opsK P T N all K r ((t,.int k' m) :: E) w) : opsK P T N all K (o :: r) E w:=
 o_go (by rw [hs]; exact ⟨m,hc,h⟩)
theorem zD {e m b : Int} {k' : IntKind} (hs : goK P T N all o E w = fun k=>(b ≠ 0 ∧ ∃ m,e = m ∧ k t (.int k' m) w)) (hb : b ≠ 0) (hc : e = m) (h : opsK P T N all K r ((t,.int k' m) :: E) w) : opsK P T N all K (o :: r) E w:=
 o_go (by rw [hs]; exact ⟨hb,m,hc,h⟩)
theorem zI {z : Int} {n j : Nat} {f : Nat → Value} (hs : goK P T N all o E w = fun k=>∃ j : Nat,z = (j : Int) ∧ j < n ∧ k t (f j) w) (hz : z = (j : Int)) (hj : j < n) (h : opsK P T N all K r ((t,f j) :: E) w) : opsK P T N all K (o :: r) E w:=
 o_go (by rw [hs]; exact ⟨j,hz,hj,h⟩)
theorem zS {v old u : Value} {x : Addr} {n : Nat} (hs : goK0 P T all o E w = fun k=>(Nat.beq v.cells.size n = true ∧ iz v.cells.toList = true ∧ (∃ old,w.cell? x = some old) ∧ w.frozen? x = false ∧ k undef (w.setCell x u)))
  (h1 : (Nat.beq v.cells.size n && iz v.cells.toList) = true) (hc : w.cell? x = some old) (hf : w.frozen? x = false) (h : opsK P T N all K r E (w.setCell x u)) : opsK P T N all K (o :: r) E w:=
 o_go0 (by rw [hs]; exact ⟨(Bool.and_eq_true_iff.1 h1).1,(Bool.and_eq_true_iff.1 h1).2,⟨old,hc⟩,hf,h⟩)
theorem zF {n : Nat} {args : Array Value} {R : Ending → World → Prop} (hs : goK P T N all o E w = fun k=>(bk P n = true ∧ Calls P n args w (fun e w'=>∃ v,e = .returned v ∧ k t v w')))
  (hen : bk P n = true) (hc : Calls P n args w R) (h : ∀ e w',R e w' → ∃ v,e = .returned v ∧ opsK P T N all K r ((t,v) :: E) w') : opsK P T N all K (o :: r) E w:=
 o_go (by rw [hs]; exact ⟨hen,hc.mono h⟩)
theorem zM {t' : TypeId} {e' : TI} {n n' : Int} (m : Nat)
  (hs : goK P T N all o E w = fun k=>∃ l m : Nat,n = (l : Int) ∧ n' = (m : Int) ∧ l ≤ m ∧ e'.size = 1 ∧ e'.zero.cells = #[e'.zero] ∧ e'.bytes * m ≤ 281474976710656 ∧ m ≤ 9223372036854775807 ∧ k t (.slice (some ⟨w.heap.size,0,none⟩) l m) (w.alloc (.cells (madeCells #[e'.zero] m) t')))
  (hn : n = (m : Int)) (hn' : n' = (m : Int)) (h1 : e'.size = 1) (hz : e'.zero.cells = #[e'.zero]) (hb : e'.bytes * m ≤ 281474976710656) (h63 : m ≤ 9223372036854775807) (h : opsK P T N all K r ((t,.slice (some ⟨w.heap.size,0,none⟩) m m) :: E) (w.alloc (.cells (madeCells #[e'.zero] m) t'))) : opsK P T N all K (o :: r) E w:=
 o_go (by rw [hs]; exact ⟨m,m,hn,hn',Nat.le_refl _,h1,hz,hb,h63,h⟩)
end
section
variable {K : Env → Prop}
theorem fa (h : K E) : eb P T N all w K [] E:=h
theorem abz (hd : k9 N o.dst = true) (ht : o.dst = some t) (hg : gk all E o.guard = some true) (h : zx P T E w o.op (fun v=>eb P T N all w K r ((t,v) :: E))) : eb P T N all w K (o :: r) E:=by
 rw [ks,hd,hg];simp only [ht];exact h
theorem q_go (h : goQ P T N all o E w (fun t v=>eb P T N all w K r ((t,v) :: E))) : eb P T N all w K (o :: r) E:=by
 unfold goQ at h
 split at h
 ·rename_i hd ht hg; exact abz hd ht hg h
 ·cases h
theorem qK (hs : skT false N all o E = some t) (h : eb P T N all w K r ((t,undef) :: E)) : eb P T N all w K (o :: r) E:=by
 obtain ⟨hd,ht,hg⟩:=q9 hs;rw [ks,hd,hg];simp only [ht];exact h
theorem qP {v : Value} (hs : goQ P T N all o E w = fun k=>k t v) (h : eb P T N all w K r ((t,v) :: E)) : eb P T N all w K (o :: r) E:=
 q_go (by rw [hs]; exact h)
theorem qX {v : Value} (hs : gqX P T N all o E w = fun k => k t v) (h : eb P T N all w K r ((t, v) :: E)) : eb P T N all w K (o :: r) E := by
 have h2 : gqX P T N all o E w (fun t v => eb P T N all w K r ((t, v) :: E)) := by rw [hs]; exact h
 unfold gqX at h2
 split at h2
 · rename_i hd ht hg; exact abz hd ht hg h2
 · rename_i hd ht hg
   rw [ks, hd, hg];simp only [ht];exact h2
 · exact h2.elim
theorem qL {v : Value} {x : Addr} (hs : goQ P T N all o E w = fun k=>∃ v,w.cell? x = some v ∧ k t v) (hc : w.cell? x = some v) (h : eb P T N all w K r ((t,v) :: E)) : eb P T N all w K (o :: r) E:=
 q_go (by rw [hs]; exact ⟨v,hc,h⟩)
theorem qA (vs : List Value) {n b of : Nat} (hs : goQ P T N all o E w = fun k=>∃ vs : List Value,vs.length = n ∧ ca w.cell? b of vs ∧ k t (.agg vs.toArray)) (hl : vs.length = n) (hc : ca w.cell? b of vs)
  (h : eb P T N all w K r ((t,.agg vs.toArray) :: E)) : eb P T N all w K (o :: r) E:=
 q_go (by rw [hs]; exact ⟨vs,hl,hc,h⟩)
theorem qC {e c : Bool} (hs : goQ P T N all o E w = fun k=>∃ c,e = c ∧ k t (.bool c)) (hc : e = c) (h : eb P T N all w K r ((t,.bool c) :: E)) : eb P T N all w K (o :: r) E:=
 q_go (by rw [hs]; exact ⟨c,hc,h⟩)
theorem qQ {zs xs ys : List Value} {c : Bool} (hs : goQ P T N all o E w = fun k=>∃ c,d8 zs xs ys = some c ∧ k t (.bool c)) (hc : d8 zs xs ys = some c) (h : eb P T N all w K r ((t,.bool c) :: E)) : eb P T N all w K (o :: r) E:=
 q_go (by rw [hs]; exact ⟨c,hc,h⟩)
theorem qN {e m : Int} {k' : IntKind} (hs : goQ P T N all o E w = fun k=>∃ m,e = m ∧ k t (.int k' m)) (hc : e = m) (h : eb P T N all w K r ((t,.int k' m) :: E)) : eb P T N all w K (o :: r) E:=
 q_go (by rw [hs]; exact ⟨m,hc,h⟩)
theorem qI {z : Int} {n j : Nat} {f : Nat → Value} (hs : goQ P T N all o E w = fun k=>∃ j : Nat,z = (j : Int) ∧ j < n ∧ k t (f j)) (hz : z = (j : Int)) (hj : j < n) (h : eb P T N all w K r ((t,f j) :: E)) : eb P T N all w K (o :: r) E:=
 q_go (by rw [hs]; exact ⟨j,hz,hj,h⟩)
theorem qF {n : Nat} {args : Array Value} (v : Value)
  (hs : goQ P T N all o E w = fun k=>(bk P n = true ∧ ∃ v,(∀ w1,RowKit.Below w.heap.size w w1 → Calls P n args w1 (fun e w2=>e = .returned v ∧ RowKit.Below w.heap.size w w2)) ∧ k t v))
  (hen : bk P n = true) (hc : ∀ w1,RowKit.Below w.heap.size w w1 → Calls P n args w1 (fun e w2=>e = .returned v ∧ RowKit.Below w1.heap.size w1 w2)) (h : eb P T N all w K r ((t,v) :: E)) : eb P T N all w K (o :: r) E:=
 q_go (by rw [hs]; exact ⟨hen,v,fun w1 h1=>(hc w1 h1).mono (fun e w2 ⟨he,h2⟩=>⟨he,h1.trans (h2.mono h1.size)⟩),h⟩)
end
end
section
variable {K : Act → World → Prop} {Q : Exit → Act → World → Prop} {a : Act} {w : World} {id : Nat}
theorem a8 (h : Q .ret a w) : Exit.then K Q .ret a w:=h
theorem b4 (h : K a w) : Exit.then K Q .normal a w:=h
theorem bf {i : Nat} (h : Q (.exit i) a w) : Exit.then K Q (.exit i) a w:=h
theorem am (h : Q .ret a w) : Exit.inBlock id Q .ret a w:=h
theorem ay (h : Q .normal a w) : Exit.inBlock id Q .normal a w:=h
theorem ba (h : Q .normal a w) : Exit.inBlock id Q (.exit id) a w:=by simpa [Exit.inBlock] using h
theorem az {i : Nat} (hi : Nat.beq i id = false) (h : Q (.exit i) a w) : Exit.inBlock id Q (.exit i) a w:=by
 have : ¬ i = id:=Nat.ne_of_beq_eq_false hi
 simpa [Exit.inBlock,this] using h
end
end Sym
end
section
open Go
def tab : Sym.Tab:=[
 ⟨2,.int .i64,1,8,.int .i64 0⟩,
 ⟨3,.int .i64,1,8,.int .i64 0⟩,
 ⟨4,.bool,1,1,.bool false⟩,
 ⟨5,.int .u8,1,1,.int .u8 0⟩,
 ⟨21,.int .i32,1,4,.int .i32 0⟩,
 ⟨22,.slice 34,1,24,.slice none 0 0⟩,
 ⟨23,.slice 4,1,24,.slice none 0 0⟩,
 ⟨24,.struct [(0,3),(1,3),(2,22),(3,23)],4,64,.agg #[.int .i64 0,.int .i64 0,.slice none 0 0,.slice none 0 0]⟩,
 ⟨25,.struct [(0,3),(1,3),(2,22),(3,23)],4,64,.agg #[.int .i64 0,.int .i64 0,.slice none 0 0,.slice none 0 0]⟩,
 ⟨28,.int .i64,1,8,.int .i64 0⟩,
 ⟨34,.slice 3,1,24,.slice none 0 0⟩,
 ⟨40,.slice 83,1,24,.slice none 0 0⟩,
 ⟨43,.int .u64,1,8,.int .u64 0⟩,
 ⟨49,.slice 23,1,24,.slice none 0 0⟩,
 ⟨51,.slice 59,1,24,.slice none 0 0⟩,
 ⟨53,.slice 58,1,24,.slice none 0 0⟩,
 ⟨55,.arr 63 43,63,504,.agg #[.int .u64 0,.int .u64 0,.int .u64 0,.int .u64 0,.int .u64 0,.int .u64 0,.int .u64 0,.int .u64 0,.int .u64 0,.int .u64 0,.int .u64 0,.int .u64 0,.int .u64 0,.int .u64 0,.int .u64 0,.int .u64 0,.int .u64 0,.int .u64 0,.int .u64 0,.int .u64 0,.int .u64 0,.int .u64 0,.int .u64 0,.int .u64 0,.int .u64 0,.int .u64 0,.int .u64 0,.int .u64 0,.int .u64 0,.int .u64 0,.int .u64 0,.int .u64 0,.int .u64 0,.int .u64 0,.int .u64 0,.int .u64 0,.int .u64 0,.int .u64 0,.int .u64 0,.int .u64 0,.int .u64 0,.int .u64 0,.int .u64 0,.int .u64 0,.int .u64 0,.int .u64 0,.int .u64 0,.int .u64 0,.int .u64 0,.int .u64 0,.int .u64 0,.int .u64 0,.int .u64 0,.int .u64 0,.int .u64 0,.int .u64 0,.int .u64 0,.int .u64 0,.int .u64 0,.int .u64 0,.int .u64 0,.int .u64 0,.int .u64 0]⟩,
 ⟨56,.arr 63 43,63,504,.agg #[.int .u64 0,.int .u64 0,.int .u64 0,.int .u64 0,.int .u64 0,.int .u64 0,.int .u64 0,.int .u64 0,.int .u64 0,.int .u64 0,.int .u64 0,.int .u64 0,.int .u64 0,.int .u64 0,.int .u64 0,.int .u64 0,.int .u64 0,.int .u64 0,.int .u64 0,.int .u64 0,.int .u64 0,.int .u64 0,.int .u64 0,.int .u64 0,.int .u64 0,.int .u64 0,.int .u64 0,.int .u64 0,.int .u64 0,.int .u64 0,.int .u64 0,.int .u64 0,.int .u64 0,.int .u64 0,.int .u64 0,.int .u64 0,.int .u64 0,.int .u64 0,.int .u64 0,.int .u64 0,.int .u64 0,.int .u64 0,.int .u64 0,.int .u64 0,.int .u64 0,.int .u64 0,.int .u64 0,.int .u64 0,.int .u64 0,.int .u64 0,.int .u64 0,.int .u64 0,.int .u64 0,.int .u64 0,.int .u64 0,.int .u64 0,.int .u64 0,.int .u64 0,.int .u64 0,.int .u64 0,.int .u64 0,.int .u64 0,.int .u64 0]⟩,
 ⟨58,.slice 110,1,24,.slice none 0 0⟩,
 ⟨59,.slice 21,1,24,.slice none 0 0⟩,
 ⟨68,.ptr,1,8,.pointer none⟩,
 ⟨70,.ptr,1,8,.pointer none⟩,
 ⟨72,.struct [(0,3),(1,34),(2,59),(3,23),(4,3)],5,88,.agg #[.int .i64 0,.slice none 0 0,.slice none 0 0,.slice none 0 0,.int .i64 0]⟩,
 ⟨73,.struct [(0,3),(1,34),(2,59),(3,23),(4,3)],5,88,.agg #[.int .i64 0,.slice none 0 0,.slice none 0 0,.slice none 0 0,.int .i64 0]⟩,
 ⟨74,.slice 102,1,24,.slice none 0 0⟩,
 ⟨75,.struct [(0,59),(1,34),(2,34),(3,74),(4,34),(5,34)],6,144,.agg #[.slice none 0 0,.slice none 0 0,.slice none 0 0,.slice none 0 0,.slice none 0 0,.slice none 0 0]⟩,
 ⟨76,.struct [(0,59),(1,34),(2,34),(3,74),(4,34),(5,34)],6,144,.agg #[.slice none 0 0,.slice none 0 0,.slice none 0 0,.slice none 0 0,.slice none 0 0,.slice none 0 0]⟩,
 ⟨80,.ptr,1,8,.pointer none⟩,
 ⟨82,.struct [(0,3),(1,3)],2,16,.agg #[.int .i64 0,.int .i64 0]⟩,
 ⟨83,.struct [(0,3),(1,3)],2,16,.agg #[.int .i64 0,.int .i64 0]⟩,
 ⟨91,.map 83 3,1,8,.map none⟩,
 ⟨92,.struct [(0,83),(2,91),(3,40)],4,48,.agg #[.int .i64 0,.int .i64 0,.map none,.slice none 0 0]⟩,
 ⟨93,.struct [(0,83),(2,91),(3,40)],4,48,.agg #[.int .i64 0,.int .i64 0,.map none,.slice none 0 0]⟩,
 ⟨95,.slice 43,1,24,.slice none 0 0⟩,
 ⟨101,.struct [(0,3),(1,3),(2,3),(3,3)],4,32,.agg #[.int .i64 0,.int .i64 0,.int .i64 0,.int .i64 0]⟩,
 ⟨102,.struct [(0,3),(1,3),(2,3),(3,3)],4,32,.agg #[.int .i64 0,.int .i64 0,.int .i64 0,.int .i64 0]⟩,
 ⟨103,.other,1,8,.nilFunc⟩,
 ⟨105,.slice 56,1,24,.slice none 0 0⟩,
 ⟨108,.ptr,1,8,.pointer none⟩,
 ⟨109,.struct [(0,3),(1,43)],2,16,.agg #[.int .i64 0,.int .u64 0]⟩,
 ⟨110,.struct [(0,3),(1,43)],2,16,.agg #[.int .i64 0,.int .u64 0]⟩,
 ⟨112,.ptr,1,8,.pointer none⟩,
 ⟨116,.map 56 3,1,8,.map none⟩,
 ⟨117,.struct [(0,56),(63,116),(64,105)],65,536,.agg #[.int .u64 0,.int .u64 0,.int .u64 0,.int .u64 0,.int .u64 0,.int .u64 0,.int .u64 0,.int .u64 0,.int .u64 0,.int .u64 0,.int .u64 0,.int .u64 0,.int .u64 0,.int .u64 0,.int .u64 0,.int .u64 0,.int .u64 0,.int .u64 0,.int .u64 0,.int .u64 0,.int .u64 0,.int .u64 0,.int .u64 0,.int .u64 0,.int .u64 0,.int .u64 0,.int .u64 0,.int .u64 0,.int .u64 0,.int .u64 0,.int .u64 0,.int .u64 0,.int .u64 0,.int .u64 0,.int .u64 0,.int .u64 0,.int .u64 0,.int .u64 0,.int .u64 0,.int .u64 0,.int .u64 0,.int .u64 0,.int .u64 0,.int .u64 0,.int .u64 0,.int .u64 0,.int .u64 0,.int .u64 0,.int .u64 0,.int .u64 0,.int .u64 0,.int .u64 0,.int .u64 0,.int .u64 0,.int .u64 0,.int .u64 0,.int .u64 0,.int .u64 0,.int .u64 0,.int .u64 0,.int .u64 0,.int .u64 0,.int .u64 0,.map none,.slice none 0 0]⟩,
 ⟨118,.struct [(0,56),(63,116),(64,105)],65,536,.agg #[.int .u64 0,.int .u64 0,.int .u64 0,.int .u64 0,.int .u64 0,.int .u64 0,.int .u64 0,.int .u64 0,.int .u64 0,.int .u64 0,.int .u64 0,.int .u64 0,.int .u64 0,.int .u64 0,.int .u64 0,.int .u64 0,.int .u64 0,.int .u64 0,.int .u64 0,.int .u64 0,.int .u64 0,.int .u64 0,.int .u64 0,.int .u64 0,.int .u64 0,.int .u64 0,.int .u64 0,.int .u64 0,.int .u64 0,.int .u64 0,.int .u64 0,.int .u64 0,.int .u64 0,.int .u64 0,.int .u64 0,.int .u64 0,.int .u64 0,.int .u64 0,.int .u64 0,.int .u64 0,.int .u64 0,.int .u64 0,.int .u64 0,.int .u64 0,.int .u64 0,.int .u64 0,.int .u64 0,.int .u64 0,.int .u64 0,.int .u64 0,.int .u64 0,.int .u64 0,.int .u64 0,.int .u64 0,.int .u64 0,.int .u64 0,.int .u64 0,.int .u64 0,.int .u64 0,.int .u64 0,.int .u64 0,.int .u64 0,.int .u64 0,.map none,.slice none 0 0]⟩,
 ⟨119,.slice 25,1,24,.slice none 0 0⟩,
 ⟨121,.ptr,1,8,.pointer none⟩,
 ⟨132,.ptr,1,8,.pointer none⟩,
 ⟨135,.map 3 3,1,8,.map none⟩,
 ⟨136,.struct [(0,3),(1,135),(2,34)],3,40,.agg #[.int .i64 0,.map none,.slice none 0 0]⟩,
 ⟨137,.struct [(0,3),(1,135),(2,34)],3,40,.agg #[.int .i64 0,.map none,.slice none 0 0]⟩,
 ⟨138,.arr 64 5,64,64,.agg #[.int .u8 0,.int .u8 0,.int .u8 0,.int .u8 0,.int .u8 0,.int .u8 0,.int .u8 0,.int .u8 0,.int .u8 0,.int .u8 0,.int .u8 0,.int .u8 0,.int .u8 0,.int .u8 0,.int .u8 0,.int .u8 0,.int .u8 0,.int .u8 0,.int .u8 0,.int .u8 0,.int .u8 0,.int .u8 0,.int .u8 0,.int .u8 0,.int .u8 0,.int .u8 0,.int .u8 0,.int .u8 0,.int .u8 0,.int .u8 0,.int .u8 0,.int .u8 0,.int .u8 0,.int .u8 0,.int .u8 0,.int .u8 0,.int .u8 0,.int .u8 0,.int .u8 0,.int .u8 0,.int .u8 0,.int .u8 0,.int .u8 0,.int .u8 0,.int .u8 0,.int .u8 0,.int .u8 0,.int .u8 0,.int .u8 0,.int .u8 0,.int .u8 0,.int .u8 0,.int .u8 0,.int .u8 0,.int .u8 0,.int .u8 0,.int .u8 0,.int .u8 0,.int .u8 0,.int .u8 0,.int .u8 0,.int .u8 0,.int .u8 0,.int .u8 0]⟩,
 ⟨140,.ptr,1,8,.pointer none⟩,
 ⟨142,.struct [(0,3),(1,59),(2,59)],3,56,.agg #[.int .i64 0,.slice none 0 0,.slice none 0 0]⟩,
 ⟨143,.struct [(0,3),(1,59),(2,59)],3,56,.agg #[.int .i64 0,.slice none 0 0,.slice none 0 0]⟩,
 ⟨158,.ptr,1,8,.pointer none⟩]
theorem af : Sym.Tab.ok Tryz.prog tab:=by
 refine ⟨⟨⟨by kernel_rfl,by kernel_rfl⟩,by kernel_rfl⟩,⟨⟨by kernel_rfl,by kernel_rfl⟩,by kernel_rfl⟩,⟨⟨by kernel_rfl,by kernel_rfl⟩,by kernel_rfl⟩,⟨⟨by kernel_rfl,by kernel_rfl⟩,by kernel_rfl⟩,⟨⟨by kernel_rfl,by kernel_rfl⟩,by kernel_rfl⟩,⟨⟨by kernel_rfl,by kernel_rfl⟩,by kernel_rfl⟩,⟨⟨by kernel_rfl,by kernel_rfl⟩,by kernel_rfl⟩,⟨⟨by kernel_rfl,by kernel_rfl⟩,by kernel_rfl⟩,⟨⟨by kernel_rfl,by kernel_rfl⟩,by kernel_rfl⟩,⟨⟨by kernel_rfl,by kernel_rfl⟩,by kernel_rfl⟩,⟨⟨by kernel_rfl,by kernel_rfl⟩,by kernel_rfl⟩,⟨⟨by kernel_rfl,by kernel_rfl⟩,by kernel_rfl⟩,⟨⟨by kernel_rfl,by kernel_rfl⟩,by kernel_rfl⟩,⟨⟨by kernel_rfl,by kernel_rfl⟩,by kernel_rfl⟩,⟨⟨by kernel_rfl,by kernel_rfl⟩,by kernel_rfl⟩,⟨⟨by kernel_rfl,by kernel_rfl⟩,by kernel_rfl⟩,⟨⟨by kernel_rfl,by kernel_rfl⟩,by kernel_rfl⟩,⟨⟨by kernel_rfl,by kernel_rfl⟩,by kernel_rfl⟩,⟨⟨by kernel_rfl,by kernel_rfl⟩,by kernel_rfl⟩,⟨⟨by kernel_rfl,by kernel_rfl⟩,by kernel_rfl⟩,⟨⟨by kernel_rfl,by kernel_rfl⟩,by kernel_rfl⟩,⟨⟨by kernel_rfl,by kernel_rfl⟩,by kernel_rfl⟩,⟨⟨by kernel_rfl,by kernel_rfl⟩,by kernel_rfl⟩,⟨⟨by kernel_rfl,by kernel_rfl⟩,by kernel_rfl⟩,⟨⟨by kernel_rfl,by kernel_rfl⟩,by kernel_rfl⟩,⟨⟨by kernel_rfl,by kernel_rfl⟩,by kernel_rfl⟩,⟨⟨by kernel_rfl,by kernel_rfl⟩,by kernel_rfl⟩,⟨⟨by kernel_rfl,by kernel_rfl⟩,by kernel_rfl⟩,⟨⟨by kernel_rfl,by kernel_rfl⟩,by kernel_rfl⟩,⟨⟨by kernel_rfl,by kernel_rfl⟩,by kernel_rfl⟩,⟨⟨by kernel_rfl,by kernel_rfl⟩,by kernel_rfl⟩,⟨⟨by kernel_rfl,by kernel_rfl⟩,by kernel_rfl⟩,⟨⟨by kernel_rfl,by kernel_rfl⟩,by kernel_rfl⟩,⟨⟨by kernel_rfl,by kernel_rfl⟩,by kernel_rfl⟩,⟨⟨by kernel_rfl,by kernel_rfl⟩,by kernel_rfl⟩,⟨⟨by kernel_rfl,by kernel_rfl⟩,by kernel_rfl⟩,⟨⟨by kernel_rfl,by kernel_rfl⟩,by kernel_rfl⟩,⟨⟨by kernel_rfl,by kernel_rfl⟩,by kernel_rfl⟩,⟨⟨by kernel_rfl,by kernel_rfl⟩,by kernel_rfl⟩,⟨⟨by kernel_rfl,by kernel_rfl⟩,by kernel_rfl⟩,⟨⟨by kernel_rfl,by kernel_rfl⟩,by kernel_rfl⟩,⟨⟨by kernel_rfl,by kernel_rfl⟩,by kernel_rfl⟩,⟨⟨by kernel_rfl,by kernel_rfl⟩,by kernel_rfl⟩,⟨⟨by kernel_rfl,by kernel_rfl⟩,by kernel_rfl⟩,⟨⟨by kernel_rfl,by kernel_rfl⟩,by kernel_rfl⟩,⟨⟨by kernel_rfl,by kernel_rfl⟩,by kernel_rfl⟩,⟨⟨by kernel_rfl,by kernel_rfl⟩,by kernel_rfl⟩,⟨⟨by kernel_rfl,by kernel_rfl⟩,by kernel_rfl⟩,⟨⟨by kernel_rfl,by kernel_rfl⟩,by kernel_rfl⟩,⟨⟨by kernel_rfl,by kernel_rfl⟩,by kernel_rfl⟩,⟨⟨by kernel_rfl,by kernel_rfl⟩,by kernel_rfl⟩,⟨⟨by kernel_rfl,by kernel_rfl⟩,by kernel_rfl⟩,⟨⟨by kernel_rfl,by kernel_rfl⟩,by kernel_rfl⟩,⟨⟨by kernel_rfl,by kernel_rfl⟩,by kernel_rfl⟩,⟨⟨by kernel_rfl,by kernel_rfl⟩,by kernel_rfl⟩,⟨⟨by kernel_rfl,by kernel_rfl⟩,by kernel_rfl⟩,trivial⟩
theorem dc : Tryz.prog.follows .mixedOrders = true:=by kernel_rfl
end
section
namespace Sym
open Go
def Only (F : Act → World → Prop) : Exit → Act → World → Prop
 | .normal,a,w=>F a w
 | _,_,_=>False
section
variable {P : Program} {ops : Array Oper} {F : Act → World → Prop} {m : Nat} {B : World → Prop}
def anyG (P : Program) (ops : Array Oper) (F : Act → World → Prop) (m : Nat) (B : World → Prop) : Nat → Array Bool → Act → World → Prop
 | 0,L,a,w=>Region.ready .any ops L = [] ∧ F a w
 | n + 1,L,a,w=>(Region.ready .any ops L = [] → F a w) ∧ ∀ i ∈ Region.ready .any ops L,
     wpOp P ops (Only F) i (fun a' w'=>((L.setIfInBounds i true).getD m false = true ∨ B w') ∧ anyG P ops F m B n (L.setIfInBounds i true) a' w') a w
theorem qu : ∀ (n : Nat) (L : Array Bool) (a : Act) (w : World),anyG P ops F m B n L a w → wpAny P .any ops (Only F) n L a w
 | 0,_,_,_,h=>h
 | n + 1,_,_,_,h=>⟨h.1,fun i hi=>wpOp_mono (fun a' w' q=>qu n _ a' w' q.2) (h.2 i hi)⟩
theorem fk {L : Array Bool} {i j : Nat} (h : i ≠ j) : (L.setIfInBounds i true).getD j false = L.getD j false:=getD_set_ne false h
def ahc (i : Nat) : List Oper → List Nat → Nat → List Nat
 | [],acc,_=>acc
 | o :: r,acc,n=>match o.after.any (fun e=>Region.binds .any e && (Nat.beq e.on i || acc.any (Nat.beq e.on))) with
   | true=>ahc i r (n :: acc) (n + 1)
   | false=>ahc i r acc (n + 1)
def deps (ops : Array Oper) (i : Nat) : List Nat:=ahc i ops.toList [] 0
def held (ops : Array Oper) (L : Array Bool) (m i : Nat) : Bool:=match Nat.blt m ops.size with
 | true=>(deps ops i).any (Nat.beq m) && (deps ops i).all (fun p=>!L.getD p false)
 | false=>true
def aei (ops : Array Oper) (i : Nat) (D : List Nat) : Prop:=∀ p ∈ D,∃ o,ops[p]? = some o ∧ ∃ e ∈ o.after,Region.binds .any e = true ∧ (e.on = i ∨ e.on ∈ D)
theorem aei.cons {i p : Nat} {D : List Nat} (h : aei ops i D) {o : Oper} (ho : ops[p]? = some o) (he : ∃ e ∈ o.after,Region.binds .any e = true ∧ (e.on = i ∨ e.on ∈ D)) : aei ops i (p :: D):=by
 intro q hq
 rcases List.mem_cons.1 hq with rfl | hq
 ·obtain ⟨e,h1,h2,h3⟩:=he;exact ⟨o,ho,e,h1,h2,h3.imp id (List.mem_cons_of_mem _)⟩
 ·obtain ⟨o',ho',e,h1,h2,h3⟩:=h q hq;exact ⟨o',ho',e,h1,h2,h3.imp id (List.mem_cons_of_mem _)⟩
theorem xp {i : Nat} : ∀ (r : List Oper) (acc : List Nat) (n : Nat),(∀ j,ops[n + j]? = r[j]?) → aei ops i acc → aei ops i (ahc i r acc n)
 | [],_,_,_,h=>h
 | o :: r,acc,n,hr,h=>by
   have ho : ops[n]? = some o:=by simpa using hr 0
   have hr' : ∀ j,ops[n + 1 + j]? = r[j]?:=fun j=>by
    have:=hr (j + 1)
    rw [show n + 1 + j = n + (j + 1) by omega]
    simpa using this
   unfold ahc
   split
   ·rename_i he;refine xp r _ _ hr' (h.cons ho ?_);simp only [Array.any_eq_true,Bool.and_eq_true,Bool.or_eq_true,List.any_eq_true] at he;obtain ⟨k,hk,hb,hon⟩:=he;refine ⟨_,Array.getElem_mem hk,hb,hon.imp (fun h=>Nat.eq_of_beq_eq_true h) ?_⟩;rintro ⟨q,hq,he⟩;rw [Nat.eq_of_beq_eq_true he]; exact hq
   ·exact xp r _ _ hr' h
theorem deps_ok (i : Nat) : aei ops i (deps ops i):=xp _ _ _ (fun j=>by simp) (fun _ h=>by cases h)
theorem agn {L : Array Bool} {m i : Nat} (h : held ops L m i = true) : ops.size ≤ m ∨ (m ∈ deps ops i ∧ ∀ p ∈ deps ops i,L.getD p false = false):=by
 unfold held at h
 split at h
 ·simp only [Bool.and_eq_true,List.any_eq_true,List.all_eq_true] at h;obtain ⟨⟨q,hq,he⟩,h2⟩:=h;rw [Nat.eq_of_beq_eq_true he];exact .inr ⟨hq,fun p hp=>by simpa using h2 p hp⟩
 ·rename_i hb;refine .inl ?_
  rcases Nat.lt_or_ge m ops.size with hl | hl
  ·rw [show Nat.blt m ops.size = true from Nat.ble_eq_true_of_le hl] at hb; cases hb
  ·exact hl
theorem aee {i : Nat} {oi : Oper} {v : Value} (hi : ops[i]? = some oi) (hsel : ∀ (j : Nat) (o : Oper) cs b,ops[j]? = some o → o.op ≠ .select cs b)
  (hmi : m ≠ i) :
  ∀ (n : Nat) (L : Array Bool) (a : Act) (w : World),(ops.size ≤ m ∨ (m ∈ deps ops i ∧ ∀ p ∈ deps ops i,L.getD p false = false)) →
    (∀ j oj,ops[j]? = some oj → j ≠ i → L.getD j true = false → (∀ e ∈ oj.after,Region.binds .any e = true → e.on ≠ i) → oi.apart ops oj = true) →
    i ∈ Region.ready .any ops L → YieldsIf P ops B oi v a → L.getD m false = false → B w →
    anyG P ops F m B n (L.setIfInBounds i true) (a.put oi.dst v) w → anyG P ops F m B (n + 1) L a w:=by
 intro n
 induction n with
 | zero=>
   intro L a w _ _ hr hy hm hB H;refine ⟨fun h0=>(by rw [h0] at hr; cases hr),fun j hj=>?_⟩
   by_cases hji : j = i
   ·subst hji;exact hy.wpOp hi hB ⟨.inr hB,H⟩
   ·have hj':=ready_mono hj hji;rw [H.1] at hj'
    cases hj'
 | succ n ih=>
   intro L a w hw hfree hr hy hm hB H;have hun:=(mem_ready.1 hr).1;refine ⟨fun h0=>(by rw [h0] at hr; cases hr),fun j hj=>?_⟩
   by_cases hji : j = i
   ·subst hji;exact hy.wpOp hi hB ⟨.inr hB,H⟩
   obtain ⟨hjun,oj,hoj,hall⟩:=mem_ready.1 hj
   have hafter : ∀ e ∈ oj.after,Region.binds .any e = true → e.on ≠ i:=by
    intro e he hb heq;have h1:=hall e he hb;rw [heq] at h1
    rcases Nat.lt_or_ge i L.size with hlt | hge
    ·simp only [Array.getD_eq_getD_getElem?,Array.getElem?_eq_getElem hlt,Option.getD_some] at h1 hun;rw [hun] at h1; cases h1
    ·simp only [Array.getD_eq_getD_getElem?,Array.getElem?_eq_none hge,Option.getD_none] at h1
     cases h1
   have hjs : j < ops.size:=(Array.getElem?_eq_some_iff.1 hoj).1
   have hiF : L.getD i false = false:=by
    rcases Nat.lt_or_ge i L.size with hlt | hge
    ·simp only [Array.getD_eq_getD_getElem?,Array.getElem?_eq_getElem hlt,Option.getD_some] at hun ⊢;exact hun
    ·simp [Array.getD_eq_getD_getElem?,Array.getElem?_eq_none hge]
   have hjD : j ∉ deps ops i ∨ ops.size ≤ m:=by
    rcases hw with hw | ⟨_,hU⟩
    ·exact .inr hw
    ·refine .inl (fun hj=>?_);obtain ⟨o',ho',e,h1,h2,h3⟩:=deps_ok (ops:=ops) i j hj;rw [hoj] at ho'
     cases ho'
     have h4:=hall e h1 h2
     rcases h3 with h3 | h3
     ·rw [h3,hiF] at h4; cases h4
     ·rw [hU _ h3] at h4; cases h4
   have hjm : j ≠ m:=by
    intro e;subst e
    rcases hw with hw | hw
    ·omega
    ·rcases hjD with h | h
     ·exact h hw.1
     ·omega
   have hw' : ops.size ≤ m ∨ (m ∈ deps ops i ∧ ∀ p ∈ deps ops i,(L.setIfInBounds j true).getD p false = false):=by
    rcases hw with hw | ⟨hw1,hw2⟩
    ·exact .inl hw
    ·rcases hjD with h | h
     ·exact .inr ⟨hw1,fun p hp=>by rw [fk (fun e=>h (by rw [e]; exact hp))]; exact hw2 p hp⟩
     ·exact .inl h
   have hap:=hfree j oj hoj hji hjun hafter;have step:=wpOp_putIf (P:=P) (ops:=ops) (Q:=Only F) (S:=B) hoj hap (fun cs b=>hsel i oi cs b hi) (fun cs b=>hsel j oj cs b hoj) (fun _ _ _ hq=>hq) hy (H.2 j (ready_mono hj hji));refine wpOp_mono ?_ step;rintro a' w' ⟨hy',hS',hrest⟩;have hm' : (L.setIfInBounds j true).getD m false = false:=by rw [fk hjm]; exact hm
   have hB' : B w':=by
    rcases hS' with h1 | h1
    ·rw [fk hjm,fk (Ne.symm hmi),hm] at h1
     cases h1
    ·exact h1
   refine ⟨.inr hB',ih (L.setIfInBounds j true) a' w' hw' ?_ (ready_mono hr (Ne.symm hji)) hy' hm' hB' ?_⟩
   ·intro k ok hk hki hkun hno;refine hfree k ok hk hki ?_ hno
    by_cases hjk : j = k
    ·subst hjk; exact hjun
    ·rw [getD_set_ne true hjk] at hkun; exact hkun
   ·rw [Array.setIfInBounds_comm _ _ hji];exact hrest
theorem pn {L : Array Bool} {i m : Nat} (h : L.getD m false = true) : (L.setIfInBounds i true).getD m false = true:=by
 by_cases e : i = m
 ·subst e
  rcases Nat.lt_or_ge i L.size with hlt | hge
  ·simp [Array.getD_eq_getD_getElem?,hlt]
  ·simp [Array.getD_eq_getD_getElem?,Array.getElem?_eq_none hge] at h
 ·rw [fk e]; exact h
theorem ahs {i : Nat} {oi : Oper} {v : Value} (hi : ops[i]? = some oi) (hsel : ∀ (j : Nat) (o : Oper) cs b,ops[j]? = some o → o.op ≠ .select cs b) (hmi : m ≠ i) :
  ∀ (n : Nat) (L : Array Bool) (a : Act) (w : World),
    (∀ j oj,ops[j]? = some oj → j ≠ i → L.getD j true = false → (∀ e ∈ oj.after,Region.binds .any e = true → e.on ≠ i) → oi.apart ops oj = true) →
    i ∈ Region.ready .any ops L → YieldsIf P ops (fun _=>True) oi v a → (L.getD m false = true ∨ B w) →
    anyG P ops F m B n (L.setIfInBounds i true) (a.put oi.dst v) w → anyG P ops F m B (n + 1) L a w:=by
 intro n
 induction n with
 | zero=>
   intro L a w _ hr hy hc H;refine ⟨fun h0=>(by rw [h0] at hr; cases hr),fun j hj=>?_⟩
   by_cases hji : j = i
   ·subst hji;exact hy.wpOp hi trivial ⟨hc.imp pn id,H⟩
   ·have hj':=ready_mono hj hji;rw [H.1] at hj'
    cases hj'
 | succ n ih=>
   intro L a w hfree hr hy hc H;have hun:=(mem_ready.1 hr).1;refine ⟨fun h0=>(by rw [h0] at hr; cases hr),fun j hj=>?_⟩
   by_cases hji : j = i
   ·subst hji;exact hy.wpOp hi trivial ⟨hc.imp pn id,H⟩
   obtain ⟨hjun,oj,hoj,hall⟩:=mem_ready.1 hj
   have hafter : ∀ e ∈ oj.after,Region.binds .any e = true → e.on ≠ i:=by
    intro e he hb heq;have h1:=hall e he hb;rw [heq] at h1
    rcases Nat.lt_or_ge i L.size with hlt | hge
    ·simp only [Array.getD_eq_getD_getElem?,Array.getElem?_eq_getElem hlt,Option.getD_some] at h1 hun;rw [hun] at h1; cases h1
    ·simp only [Array.getD_eq_getD_getElem?,Array.getElem?_eq_none hge,Option.getD_none] at h1
     cases h1
   have hap:=hfree j oj hoj hji hjun hafter;have step:=wpOp_putIf (P:=P) (ops:=ops) (Q:=Only F) (S:=fun _=>True) hoj hap (fun cs b=>hsel i oi cs b hi) (fun cs b=>hsel j oj cs b hoj) (fun _ _ _ hq=>hq) hy (H.2 j (ready_mono hj hji));refine wpOp_mono ?_ step;rintro a' w' ⟨hy',hS',hrest⟩
   have hc' : (L.setIfInBounds j true).getD m false = true ∨ B w':=by
    rcases hS' with h1 | h1
    ·rw [Array.setIfInBounds_comm _ _ (Ne.symm hji)] at h1;rw [fk (Ne.symm hmi)] at h1;exact .inl h1
    ·exact .inr h1
   refine ⟨hc',ih (L.setIfInBounds j true) a' w' ?_ (ready_mono hr (Ne.symm hji)) hy' hc' ?_⟩
   ·intro k ok hk hki hkun hno;refine hfree k ok hk hki ?_ hno
    by_cases hjk : j = k
    ·subst hjk; exact hjun
    ·rw [getD_set_ne true hjk] at hkun; exact hkun
   ·rw [Array.setIfInBounds_comm _ _ hji];exact hrest
end
section
variable {P : Program} {T : Tab} {N : Nat} {ops : Array Oper} {F : Act → World → Prop} {m : Nat} {w0 : World} {n : Nat} {L : Array Bool} {E : Env} {w : World}
def anyY (P : Program) (N : Nat) (ops : Array Oper) (F : Act → World → Prop) (m : Nat) (w0 : World) (n : Nat) (L : Array Bool) (E : Env) (w : World) : Prop:=
 ∀ a,St N a E → anyG P ops F m (RowKit.Below w0.heap.size w0) n L a w
theorem aj8 (hr : Region.ready .any ops L = []) (h : ∀ a,St N a E → F a w) : anyY P N ops F m w0 n L E w:=fun a hS=>by
 cases n with
 | zero=>exact ⟨hr,h a hS⟩
 | succ n=>exact ⟨fun _=>h a hS,by rw [hr]; simp⟩
theorem y_take (i : Nat) {o : Oper} {t : Nat} {v : Value} (hT : Tab.ok P T) (hi : ops[i]? = some o) (hs : Region.noSelect ops = true) (hf : Region.free .any ops L i = true) (hr : (Region.ready .any ops L).contains i = true)
  (hmi : Nat.beq m i = false) (hwt : held ops L m i = true) (hm : L.getD m false = false) (hB : RowKit.Below w0.heap.size w0 w)
  (hd : k9 N o.dst = true) (ht : o.dst = some t) (hg : gk ops.toList E o.guard = some true) (hp : fv T E w0.cell? o.op (fun u=>u = v))
  (h : anyY P N ops F m w0 n (L.setIfInBounds i true) ((t,v) :: E) w) : anyY P N ops F m w0 (n + 1) L E w:=fun a hS=>by
 obtain ⟨u,hrun,rfl⟩:=kt hT hS hp;refine aee (v:=u) hi (Region.noSelect_spec hs) (Nat.ne_of_beq_eq_false hmi) n L a w (agn hwt) (Region.free_spec hi hf) (by simpa using hr) (.inl ⟨dw hS hg,fun w1 h1=>hrun w1 (qt h1)⟩) hm hB ?_;have hS':=hS.put hd u;rw [ht] at hS';rw [ht];exact h _ hS'
theorem y_free (i : Nat) {o : Oper} {t : Nat} {v : Value} (hT : Tab.ok P T) (hi : ops[i]? = some o) (hs : Region.noSelect ops = true) (hf : Region.free .any ops L i = true) (hr : (Region.ready .any ops L).contains i = true)
  (hmi : Nat.beq m i = false) (hc : L.getD m false = true ∨ RowKit.Below w0.heap.size w0 w)
  (hd : k9 N o.dst = true) (ht : o.dst = some t) (hg : gk ops.toList E o.guard = some true) (hp : fv T E (fun _=>none) o.op (fun u=>u = v))
  (h : anyY P N ops F m w0 n (L.setIfInBounds i true) ((t,v) :: E) w) : anyY P N ops F m w0 (n + 1) L E w:=fun a hS=>by
 obtain ⟨u,hrun,rfl⟩:=kt hT hS hp;refine ahs (v:=u) hi (Region.noSelect_spec hs) (Nat.ne_of_beq_eq_false hmi) n L a w (Region.free_spec hi hf) (by simpa using hr) (.inl ⟨dw hS hg,fun w1 _=>hrun w1 (fun _ _ h=>by cases h)⟩) hc ?_;have hS':=hS.put hd u;rw [ht] at hS';rw [ht];exact h _ hS'
def okY (ops : Array Oper) (L : Array Bool) (m i : Nat) : Bool:=Region.noSelect ops && (Region.free .any ops L i && ((Region.ready .any ops L).contains i && !Nat.beq m i))
def okH (ops : Array Oper) (L : Array Bool) (m i : Nat) : Bool:=okY ops L m i && (held ops L m i && !L.getD m false)
theorem ab2 {i : Nat} (h : okY ops L m i = true) : Region.noSelect ops = true ∧ Region.free .any ops L i = true ∧ (Region.ready .any ops L).contains i = true ∧ Nat.beq m i = false:=by
 simpa only [okY,Bool.and_eq_true,Bool.not_eq_true'] using h
theorem yT (i : Nat) {o : Oper} {t : Nat} {v : Value} (hT : Tab.ok P T) (hi : ops[i]? = some o) (hk : okH ops L m i = true) (hB : RowKit.Below w0.heap.size w0 w)
  (hd : skT true N ops.toList o E = some t) (hp : fv T E w0.cell? o.op (fun u=>u = v))
  (h : anyY P N ops F m w0 n (L.setIfInBounds i true) ((t,v) :: E) w) : anyY P N ops F m w0 (n + 1) L E w:=by
 simp only [okH,Bool.and_eq_true,Bool.not_eq_true'] at hk;obtain ⟨h1,h2,h3,h4⟩:=ab2 hk.1;obtain ⟨d1,d2,d3⟩:=q9 hd;exact y_take i hT hi h1 h2 h3 h4 hk.2.1 hk.2.2 hB d1 d2 d3 hp h
theorem yL (i : Nat) {o : Oper} {t : Nat} {v : Value} {x : Addr} (hT : Tab.ok P T) (hi : ops[i]? = some o) (hk : okH ops L m i = true) (hB : RowKit.Below w0.heap.size w0 w)
  (hd : skT true N ops.toList o E = some t) (hs : fv T E w0.cell? o.op (fun u=>u = v) = ∃ u,w0.cell? x = some u ∧ u = v) (hp : w0.cell? x = some v)
  (h : anyY P N ops F m w0 n (L.setIfInBounds i true) ((t,v) :: E) w) : anyY P N ops F m w0 (n + 1) L E w:=
 yT i hT hi hk hB hd (hs ▸ ⟨v,hp,rfl⟩) h
theorem yG (i : Nat) {o : Oper} {t : Nat} {v : Value} (hT : Tab.ok P T) (hi : ops[i]? = some o) (hk : okY ops L m i = true) (hc : L.getD m false = true ∨ RowKit.Below w0.heap.size w0 w)
  (hd : skT true N ops.toList o E = some t) (hp : fv T E (fun _=>none) o.op (fun u=>u = v))
  (h : anyY P N ops F m w0 n (L.setIfInBounds i true) ((t,v) :: E) w) : anyY P N ops F m w0 (n + 1) L E w:=by
 obtain ⟨h1,h2,h3,h4⟩:=ab2 hk;obtain ⟨d1,d2,d3⟩:=q9 hd;exact y_free i hT hi h1 h2 h3 h4 hc d1 d2 d3 hp h
theorem y_all (rs : List Nat) (hr : Region.ready .any ops L = rs) (hne : rs.isEmpty = false)
  (h : ∀ i ∈ rs,∀ a,St N a E → wpOp P ops (Only F) i (fun a' w'=>((L.setIfInBounds i true).getD m false = true ∨ RowKit.Below w0.heap.size w0 w') ∧ anyG P ops F m (RowKit.Below w0.heap.size w0) n (L.setIfInBounds i true) a' w') a w) :
  anyY P N ops F m w0 (n + 1) L E w:=fun a hS=>⟨fun h0=>(by rw [← hr,h0] at hne; cases hne),fun i hi=>h i (hr ▸ hi) a hS⟩
theorem y_op (i : Nat) {o : Oper} {t : Nat} (hT : Tab.ok P T) (hi : ops[i]? = some o) (hd : k9 N o.dst = true) (ht : o.dst = some t) (hg : gk ops.toList E o.guard = some true)
  (h : ir P T E w o.op (fun v w'=>((L.setIfInBounds i true).getD m false = true ∨ RowKit.Below w0.heap.size w0 w') ∧ anyY P N ops F m w0 n (L.setIfInBounds i true) ((t,v) :: E) w')) :
  ∀ a,St N a E → wpOp P ops (Only F) i (fun a' w'=>((L.setIfInBounds i true).getD m false = true ∨ RowKit.Below w0.heap.size w0 w') ∧ anyG P ops F m (RowKit.Below w0.heap.size w0) n (L.setIfInBounds i true) a' w') a w:=fun a hS=>by
 unfold wpOp;rw [hi];simp only [dw hS hg,if_true];refine .inl (kn hT hS h ?_);rintro v w' ⟨h1,h2⟩;have hS':=hS.put hd v;rw [ht] at hS';rw [ht];exact ⟨h1,h2 _ hS'⟩
theorem ew (i : Nat) {o : Oper} (hT : Tab.ok P T) (hi : ops[i]? = some o) (ht : o.dst = none) (hg : gk ops.toList E o.guard = some true)
  (h : ir P T E w o.op (fun _ w'=>((L.setIfInBounds i true).getD m false = true ∨ RowKit.Below w0.heap.size w0 w') ∧ anyY P N ops F m w0 n (L.setIfInBounds i true) E w')) :
  ∀ a,St N a E → wpOp P ops (Only F) i (fun a' w'=>((L.setIfInBounds i true).getD m false = true ∨ RowKit.Below w0.heap.size w0 w') ∧ anyG P ops F m (RowKit.Below w0.heap.size w0) n (L.setIfInBounds i true) a' w') a w:=fun a hS=>by
 unfold wpOp;rw [hi];simp only [dw hS hg,if_true];refine .inl (kn hT hS h ?_);rintro v w' ⟨h1,h2⟩;refine ⟨h1,?_⟩;rw [ht];exact h2 _ hS
theorem bo (i : Nat) (hr : Region.ready .any ops L = [i])
  (h : ∀ a,St N a E → wpOp P ops (Only F) i (fun a' w'=>((L.setIfInBounds i true).getD m false = true ∨ RowKit.Below w0.heap.size w0 w') ∧ anyG P ops F m (RowKit.Below w0.heap.size w0) n (L.setIfInBounds i true) a' w') a w) :
  anyY P N ops F m w0 (n + 1) L E w:=y_all [i] hr rfl (fun j hj=>by rw [List.mem_singleton.1 hj]; exact h)
theorem v7 (i j : Nat) (hr : Region.ready .any ops L = [i,j])
  (h : ∀ a,St N a E → wpOp P ops (Only F) i (fun a' w'=>((L.setIfInBounds i true).getD m false = true ∨ RowKit.Below w0.heap.size w0 w') ∧ anyG P ops F m (RowKit.Below w0.heap.size w0) n (L.setIfInBounds i true) a' w') a w)
  (h2 : ∀ a,St N a E → wpOp P ops (Only F) j (fun a' w'=>((L.setIfInBounds j true).getD m false = true ∨ RowKit.Below w0.heap.size w0 w') ∧ anyG P ops F m (RowKit.Below w0.heap.size w0) n (L.setIfInBounds j true) a' w') a w) :
  anyY P N ops F m w0 (n + 1) L E w:=y_all [i,j] hr rfl (fun k hk=>by
   rcases List.mem_cons.1 hk with rfl | hk
   ·exact h
   ·rw [List.mem_singleton.1 hk]; exact h2)
theorem y_three (i j l : Nat) (hr : Region.ready .any ops L = [i,j,l])
  (h : ∀ a,St N a E → wpOp P ops (Only F) i (fun a' w'=>((L.setIfInBounds i true).getD m false = true ∨ RowKit.Below w0.heap.size w0 w') ∧ anyG P ops F m (RowKit.Below w0.heap.size w0) n (L.setIfInBounds i true) a' w') a w)
  (h2 : ∀ a,St N a E → wpOp P ops (Only F) j (fun a' w'=>((L.setIfInBounds j true).getD m false = true ∨ RowKit.Below w0.heap.size w0 w') ∧ anyG P ops F m (RowKit.Below w0.heap.size w0) n (L.setIfInBounds j true) a' w') a w)
  (h3 : ∀ a,St N a E → wpOp P ops (Only F) l (fun a' w'=>((L.setIfInBounds l true).getD m false = true ∨ RowKit.Below w0.heap.size w0 w') ∧ anyG P ops F m (RowKit.Below w0.heap.size w0) n (L.setIfInBounds l true) a' w') a w) :
  anyY P N ops F m w0 (n + 1) L E w:=y_all [i,j,l] hr rfl (fun k hk=>by
   rcases List.mem_cons.1 hk with rfl | hk
   ·exact h
   ·rcases List.mem_cons.1 hk with rfl | hk
    ·exact h2
    ·rw [List.mem_singleton.1 hk]; exact h3)
theorem d5 (m : Nat) (E' : Env) (R : World → Prop) (hm : P.follows .mixedOrders = true) {id : Nat} {Q : Exit → Act → World → Prop} {a : Act} (h : St N a E)
  (hk : anyY P N ops (fun a' w'=>St N a' E' ∧ R w') m w.drew ops.size (Array.replicate ops.size false) E w.drew) (hq : ∀ a' w',St N a' E' → R w' → Q .normal a' w') : (Code.region id ops true).wp P Q a w:=
 wp_mono (Q:=Only (fun a' w'=>St N a' E' ∧ R w')) (wp_region_any hm (qu _ _ _ _ (hk a h))) (fun e a' w' h=>by
  cases e with
  | normal=>exact hq a' w' h.1 h.2
  | _=>exact h.elim)
theorem ep {α : Type} (m : Nat) (E' : α → Env) (R : α → World → Prop) (hm : P.follows .mixedOrders = true) {id : Nat} {Q : Exit → Act → World → Prop} {a : Act} (h : St N a E)
  (hk : anyY P N ops (fun a' w'=>∃ x,St N a' (E' x) ∧ R x w') m w.drew ops.size (Array.replicate ops.size false) E w.drew) (hq : ∀ x a' w',St N a' (E' x) → R x w' → Q .normal a' w') : (Code.region id ops true).wp P Q a w:=
 wp_mono (Q:=Only (fun a' w'=>∃ x,St N a' (E' x) ∧ R x w')) (wp_region_any hm (qu _ _ _ _ (hk a h))) (fun e a' w' h=>by
  cases e with
  | normal=>obtain ⟨x,h1,h2⟩:=h; exact hq x a' w' h1 h2
  | _=>exact h.elim)
theorem fc {α : Type} {E' : α → Env} {R : α → World → Prop} (x : α) (hr : Region.ready .any ops L = []) (hs : Sub E (E' x)) (hR : R x w) : anyY P N ops (fun a' w'=>∃ x,St N a' (E' x) ∧ R x w') m w0 n L E w:=
 aj8 hr (fun _ hS=>⟨x,hS.sub hs,hR⟩)
theorem bg {α : Type} (E' : α → Env) (R : α → World → Prop) (hT : Tab.ok P T) {id : Nat} {Q : Exit → Act → World → Prop} {a : Act} (h : St N a E)
  (hk : opsK P T N ops.toList (fun E2 w2=>∃ x,Sub E2 (E' x) ∧ R x w2) ops.toList E w) (hq : ∀ x a' w',St N a' (E' x) → R x w' → Q .normal a' w') : (Code.region id ops false).wp P Q a w:=
 wp_region_list (mn hT (fun _ _ a' ⟨x,hs,hR⟩ hS=>hq x a' _ (hS.sub hs) hR) ops.toList E w a h hk)
theorem wl (hT : Tab.ok P T) {fn : Func} {R : Ending → World → Prop} {a : Act} (h : St N a E) {p : Tmp} {t : TypeId} {b o : Nat} {vs : List Value} {e : TI} {fs : List (Nat × Nat)} (hr : fn.results = #[.cell p t]) (hl : look E p = some (.pointer (some ⟨b,o,none⟩))) (he : Tab.get T t = some e) (hu : e.und = .struct fs)
  (hc : ca w.cell? b o vs) (hn : vs.length = e.size) (hR : R (.returned (.agg vs.toArray)) w) : bodyPost P fn R .ret a w:=by
 obtain ⟨rfl,hok⟩:=Tab.get_ok hT he;refine ⟨h.defers,_,?_,hR⟩
 have hcs:=run_loadCells_list (P:=P) w ⟨b,o,none⟩ vs (fun j v hj=>by
  have:=ix hc j v hj
  unfold Addr.add
  split
  ·rename_i h0; subst h0; simpa using this
  ·simpa using this)
 have hag:=jr hok w;rw [hu] at hag;simp [results,hr,h.has _ _ hl,asAddr,loadVar,hag,dz hok,← hn,hcs]
theorem p9 (hT : Tab.ok P T) {fn : Func} {R : Ending → World → Prop} {a : Act} (h : St N a E) {p q : Tmp} {t : TypeId} {b o : Nat} {vs : List Value} {u : Value} {e : TI} {fs : List (Nat × Nat)} (hr : fn.results = #[.cell p t,.tmp q]) (hl : look E p = some (.pointer (some ⟨b,o,none⟩))) (hl2 : look E q = some u) (he : Tab.get T t = some e) (hu : e.und = .struct fs)
  (hc : ca w.cell? b o vs) (hn : vs.length = e.size) (hR : R (.returned (.tuple #[.agg vs.toArray,u])) w) : bodyPost P fn R .ret a w:=by
 obtain ⟨rfl,hok⟩:=Tab.get_ok hT he;refine ⟨h.defers,_,?_,hR⟩
 have hcs:=run_loadCells_list (P:=P) w ⟨b,o,none⟩ vs (fun j v hj=>by
  have:=ix hc j v hj
  unfold Addr.add
  split
  ·rename_i h0; subst h0; simpa using this
  ·simpa using this)
 have hag:=jr hok w;rw [hu] at hag;simp [results,hr,h.has _ _ hl,h.has _ _ hl2,asAddr,loadVar,hag,dz hok,← hn,hcs]
theorem iq {E' : Env} {R : World → Prop} (hr : Region.ready .any ops L = []) (hs : Sub E E') (hR : R w) : anyY P N ops (fun a' w'=>St N a' E' ∧ R w') m w0 n L E w:=
 aj8 hr (fun _ hS=>⟨hS.sub hs,hR⟩)
end
def ra : Code → Nat → Option (Nat × Array Oper)
 | .region id ops _,n=>match Nat.beq id n with | true=>some (id,ops) | false=>none
 | .seq a b,n | .cond _ a b,n=>match ra a n with | some x=>some x | none=>ra b n
 | .block _ a,n | .loop a,n | .scope a,n=>ra a n
 | _,_=>none
def da (c : Option Code) (n : Nat) : Option (Nat × Array Oper):=match c with | some c=>ra c n | none=>none
end Sym
end
section
def dd (next : List (List Int)) (st l : Int) : Int:=if st < 0 then -1 else (next.getD st.toNat []).getD l.toNat (-1)
def im (L s : Int) (n f : Nat) : Bool:=
 decide (L < 0) || (decide ((f : Int) ≠ n) || ((decide ((n : Int) = 0) && decide (s ≠ -1)) || (decide (0 < (n : Int)) && (decide (s < 0) || decide ((n : Int) ≤ s)))))
def p7 (n : Nat) (L : Int) (row : List Int) : Bool:=decide ((row.length : Int) = L) && row.all fun x=>decide (-1 ≤ x) && decide (x < n)
def e9 (L s : Int) (next : List (List Int)) (fin : List Bool) : Bool:=!im L s next.length fin.length && next.all (p7 next.length L)
def de (L s : Int) (next : List (List Int)) (fin : List Bool) : Int:=
 match !e9 L s next fin with
 | true=>1
 | false=>match decide (300 < L) || decide (4000 < (next.length : Int)) with
   | true=>5
   | false=>0
def fo (fin : List Bool) (st : Int) : Bool:=decide (0 ≤ st) && fin.getD st.toNat false
structure Shape (L s : Int) (next : List (List Int)) (fin : List Bool) : Prop where
 L0 : 0 ≤ L
 fin : fin.length = next.length
 s1 : -1 ≤ s
 s2 : s < next.length
 start : 0 < next.length → 0 ≤ s
 rows : ∀ k (h : k < next.length),(next[k].length : Int) = L ∧ ∀ j (h : j < next[k].length),-1 ≤ next[k][j] ∧ next[k][j] < next.length
theorem abr {L s : Int} {next : List (List Int)} {fin : List Bool} (h : e9 L s next fin = true) : Shape L s next fin:=by
 rw [e9,Bool.and_eq_true,Bool.not_eq_true'] at h;obtain ⟨h1,h2⟩:=h;simp only [im,Bool.or_eq_false_iff,Bool.and_eq_false_iff,decide_eq_false_iff_not,ne_eq,Decidable.not_not] at h1;obtain ⟨a1,a2,a3,a4⟩:=h1;refine ⟨by omega,by omega,by omega,by omega,by omega,fun k hk=>?_⟩
 have:=List.all_eq_true.1 h2 _ (List.getElem_mem hk)
 rw [p7,Bool.and_eq_true,decide_eq_true_eq] at this;refine ⟨this.1,fun j hj=>?_⟩
 have:=List.all_eq_true.1 this.2 _ (List.getElem_mem hj)
 rw [Bool.and_eq_true,decide_eq_true_eq,decide_eq_true_eq] at this;exact this
theorem ae7 {L s : Int} {next : List (List Int)} {fin : List Bool} (h : Shape L s next fin) : e9 L s next fin = true:=by
 obtain ⟨h1,h2,h3,h4,h5,h6⟩:=h;rw [e9,Bool.and_eq_true,Bool.not_eq_true'];refine ⟨?_,List.all_eq_true.2 fun r hr=>?_⟩
 ·simp only [im,Bool.or_eq_false_iff,Bool.and_eq_false_iff,decide_eq_false_iff_not,ne_eq,Decidable.not_not];refine ⟨by omega,by omega,by omega,by omega⟩
 ·obtain ⟨k,hk,rfl⟩:=List.mem_iff_getElem.1 hr;rw [p7,Bool.and_eq_true,decide_eq_true_eq];refine ⟨(h6 k hk).1,List.all_eq_true.2 fun x hx=>?_⟩;obtain ⟨j,hj,rfl⟩:=List.mem_iff_getElem.1 hx;rw [Bool.and_eq_true,decide_eq_true_eq,decide_eq_true_eq];exact (h6 k hk).2 j hj
theorem db {L s : Int} {next : List (List Int)} {fin : List Bool} (h : de L s next fin = 0) : Shape L s next fin ∧ L ≤ 300 ∧ next.length ≤ 4000:=by
 unfold de at h
 split at h
 ·cases h
 ·rename_i h1
  split at h
  ·cases h
  ·rename_i h2;rw [Bool.not_eq_false'] at h1;rw [Bool.or_eq_false_iff,decide_eq_false_iff_not,decide_eq_false_iff_not] at h2;exact ⟨abr h1,by omega,by omega⟩
theorem nk {L s : Int} {next : List (List Int)} {fin : List Bool} (h : Shape L s next fin) (h1 : L ≤ 300) (h2 : next.length ≤ 4000) : de L s next fin = 0:=by
 unfold de;rw [ae7 h];have e1 : ¬ (300 < L):=by omega
 have e2 : ¬ (4000 < (next.length : Int)):=by omega
 simp [e1,e2]
theorem e8 {L s : Int} {next : List (List Int)} {fin : List Bool} (h : Shape L s next fin) {st l : Int} (h1 : st < next.length) (h2 : 0 ≤ l) (h3 : l < L) : -1 ≤ dd next st l ∧ dd next st l < next.length:=by
 unfold dd
 split
 ·omega
 ·obtain ⟨k,rfl⟩:=Int.eq_ofNat_of_zero_le (show 0 ≤ st by omega);obtain ⟨j,rfl⟩:=Int.eq_ofNat_of_zero_le h2;have hk : k < next.length:=by omega
  obtain ⟨r1,r2⟩:=h.rows k hk;have hj : j < next[k].length:=by omega
  have:=r2 j hj
  simpa [List.getD_eq_getElem?_getD,hk,hj] using this
def goM (L : Int) (next : List (List Int)) (fin : List Bool) : Int → List Int → Bool
 | st,[]=>fo fin st
 | st,x :: r=>match decide (0 ≤ st) with
   | false=>fo fin st
   | true=>match decide (x < 0) || decide (L ≤ x) with
     | true=>false
     | false=>goM L next fin (dd next st x) r
def fq (L s : Int) (next : List (List Int)) (fin : List Bool) (word : List Int) : Bool:=
 match decide (de L s next fin ≠ 0) with
 | true=>false
 | false=>goM L next fin s word
theorem row_len {L s : Int} {next : List (List Int)} {fin : List Bool} (h : Shape L s next fin) {st : Int} (h0 : 0 ≤ st) (h1 : st < next.length) : ((next.getD st.toNat []).length : Int) = L:=by
 obtain ⟨q,rfl⟩:=Int.eq_ofNat_of_zero_le h0;have hq : q < next.length:=by omega
 have:=(h.rows q hq).1
 simp [List.getD_eq_getElem?_getD,hq];omega
def runM (next : List (List Int)) : Int → List Nat → Int
 | st,[]=>st
 | st,c :: w=>runM next (dd next st c) w
def accM (next : List (List Int)) (fin : List Bool) (st : Int) (w : List Nat) : Bool:=fo fin (runM next st w)
def Word (L : Nat) (w : List Nat) : Prop:=∀ c ∈ w,c < L
theorem Word.nil (L : Nat) : Word L []:=fun _ h=>by cases h
theorem Word.cons {L c : Nat} {w : List Nat} (h : c < L) (hw : Word L w) : Word L (c :: w):=fun x hx=>by
 rcases List.mem_cons.1 hx with rfl | hx
 ·exact h
 ·exact hw x hx
theorem Word.head {L c : Nat} {w : List Nat} (h : Word L (c :: w)) : c < L:=h c (List.mem_cons_self ..)
theorem Word.tail {L c : Nat} {w : List Nat} (h : Word L (c :: w)) : Word L w:=fun x hx=>h x (List.mem_cons_of_mem _ hx)
theorem Word.append {L : Nat} {v w : List Nat} (h : Word L v) (hw : Word L w) : Word L (v ++ w):=fun x hx=>(List.mem_append.1 hx).elim (h x) (hw x)
theorem Word.left {L : Nat} {v w : List Nat} (h : Word L (v ++ w)) : Word L v:=fun x hx=>h x (List.mem_append_left _ hx)
theorem Word.right {L : Nat} {v w : List Nat} (h : Word L (v ++ w)) : Word L w:=fun x hx=>h x (List.mem_append_right _ hx)
theorem i7 (next : List (List Int)) {st : Int} (h : st < 0) (c : Int) : dd next st c = -1:=by simp [dd,h]
theorem kq (next : List (List Int)) : ∀ (w : List Nat) {st : Int},st < 0 → runM next st w < 0
 | [],_,h=>h
 | c :: w,st,h=>by rw [runM,i7 next h]; exact kq next w (by decide)
theorem di (next : List (List Int)) (fin : List Bool) (w : List Nat) {st : Int} (h : st < 0) : accM next fin st w = false:=by
 have:=kq next w h
 simp [accM,fo];omega
theorem ef (next : List (List Int)) (fin : List Bool) (st : Int) (c : Nat) (w : List Nat) : accM next fin st (c :: w) = accM next fin (dd next st c) w:=rfl
theorem fu (next : List (List Int)) (fin : List Bool) (st : Int) : accM next fin st [] = fo fin st:=rfl
theorem d4 (next : List (List Int)) : ∀ (v w : List Nat) (st : Int),runM next st (v ++ w) = runM next (runM next st v) w
 | [],_,_=>rfl
 | c :: v,w,st=>by rw [List.cons_append,runM,d4 next v w]; rfl
theorem abg (next : List (List Int)) (fin : List Bool) (v w : List Nat) (st : Int) : accM next fin st (v ++ w) = accM next fin (runM next st v) w:=by
 rw [accM,d4]; rfl
def dq (L : Nat) (n1 : List (List Int)) (f1 : List Bool) (a : Int) (n2 : List (List Int)) (f2 : List Bool) (b : Int) : Prop:=∀ w,Word L w → accM n1 f1 a w = accM n2 f2 b w
theorem dq.symm {L : Nat} {n1 : List (List Int)} {f1 : List Bool} {a : Int} {n2 : List (List Int)} {f2 : List Bool} {b : Int} (h : dq L n1 f1 a n2 f2 b) : dq L n2 f2 b n1 f1 a:=fun w hw=>(h w hw).symm
theorem dq.trans {L : Nat} {n1 : List (List Int)} {f1 : List Bool} {a : Int} {n2 : List (List Int)} {f2 : List Bool} {b : Int} {n3 : List (List Int)} {f3 : List Bool} {c : Int} (h : dq L n1 f1 a n2 f2 b) (k : dq L n2 f2 b n3 f3 c) : dq L n1 f1 a n3 f3 c:=
 fun w hw=>(h w hw).trans (k w hw)
theorem dq.step {L : Nat} {n1 : List (List Int)} {f1 : List Bool} {a : Int} {n2 : List (List Int)} {f2 : List Bool} {b : Int} (h : dq L n1 f1 a n2 f2 b) {c : Nat} (hc : c < L) : dq L n1 f1 (dd n1 a c) n2 f2 (dd n2 b c):=
 fun w hw=>h (c :: w) (hw.cons hc)
theorem dq.run {L : Nat} {n1 : List (List Int)} {f1 : List Bool} {n2 : List (List Int)} {f2 : List Bool} : ∀ {v : List Nat} {a b : Int},dq L n1 f1 a n2 f2 b → Word L v → dq L n1 f1 (runM n1 a v) n2 f2 (runM n2 b v)
 | [],_,_,h,_=>h
 | _ :: _,_,_,h,hv=>by unfold runM; exact dq.run (h.step hv.head) hv.tail
def Live (L : Nat) (next : List (List Int)) (fin : List Bool) (st : Int) : Prop:=∃ w,Word L w ∧ accM next fin st w = true
theorem Live.pos {L : Nat} {next : List (List Int)} {fin : List Bool} {st : Int} (h : Live L next fin st) : 0 ≤ st:=by
 obtain ⟨w,_,h⟩:=h;refine Int.not_lt.1 fun hn=>?_;rw [di next fin w hn] at h
 cases h
theorem dq.live {L : Nat} {n1 : List (List Int)} {f1 : List Bool} {a : Int} {n2 : List (List Int)} {f2 : List Bool} {b : Int} (h : dq L n1 f1 a n2 f2 b) (hl : Live L n1 f1 a) : Live L n2 f2 b:=by
 obtain ⟨w,hw,e⟩:=hl;exact ⟨w,hw,(h w hw) ▸ e⟩
def ik : Nat → List Int → Option Nat
 | c,[]=>some c
 | c,t :: r=>if t < (c : Int) then ik c r else if t = (c : Int) then ik (c + 1) r else none
def scan : Nat → Nat → List (List Int) → Option Nat
 | c,_,[]=>some c
 | c,i,r :: rs=>if i < c then match ik c r with
   | some c'=>scan c' (i + 1) rs
   | none=>none
   else none
structure Canon (L s : Int) (next : List (List Int)) (fin : List Bool) : Prop where
 shape : Shape L s next fin
 s0 : 0 < next.length → s = 0
 live : ∀ i : Nat,i < next.length → Live L.toNat next fin i
 dist : ∀ i j : Nat,i < next.length → j < next.length → dq L.toNat next fin i next fin j → i = j
 num : 0 < next.length → scan 1 0 next = some next.length
theorem i9 {next : List (List Int)} {i c : Nat} (hi : i < next.length) (hc : c < next[i].length) : dd next i c = next[i][c]:=by
 have : ¬ (i : Int) < 0:=by omega
 simp [dd,this,hi,hc]
theorem em : ∀ {r : List Int} {c c' : Nat},ik c r = some c' → c ≤ c'
 | [],_,_,h=>by cases h; exact Nat.le_refl _
 | t :: r,c,c',h=>by
   unfold ik at h
   split at h
   ·exact em h
   ·split at h
    ·exact Nat.le_trans (Nat.le_succ _) (em h)
    ·cases h
theorem aae : ∀ {rs : List (List Int)} {i c c' : Nat},scan c i rs = some c' → c ≤ c'
 | [],_,_,_,h=>by cases h; exact Nat.le_refl _
 | r :: rs,i,c,c',h=>by
   unfold scan at h
   split at h
   ·split at h
    ·rename_i h1;exact Nat.le_trans (em h1) (aae h)
    ·cases h
   ·cases h
structure Pair2 (L : Nat) (nx : List (List Int)) (fx : List Bool) (ny : List (List Int)) (fy : List Bool) : Prop where
 lx : ∀ i : Nat,i < nx.length → Live L nx fx i
 ly : ∀ i : Nat,i < ny.length → Live L ny fy i
 dx : ∀ i j : Nat,i < nx.length → j < nx.length → dq L nx fx i nx fx j → i = j
 dy : ∀ i j : Nat,i < ny.length → j < ny.length → dq L ny fy i ny fy j → i = j
theorem r5 {L : Nat} {nx : List (List Int)} {fx : List Bool} {ny : List (List Int)} {fy : List Bool} (H : Pair2 L nx fx ny fy) :
  ∀ (rx ry : List Int) (c cx cy : Nat),rx.length = ry.length → ik c rx = some cx → ik c ry = some cy → cx ≤ nx.length → cy ≤ ny.length →
    (∀ t ∈ rx,-1 ≤ t) → (∀ t ∈ ry,-1 ≤ t) →
    (∀ u : Nat,u < c → dq L nx fx u ny fy u) → (∀ k (h1 : k < rx.length) (h2 : k < ry.length),dq L nx fx rx[k] ny fy ry[k]) →
    rx = ry ∧ cx = cy ∧ ∀ u : Nat,u < cx → dq L nx fx u ny fy u
 | [],[],c,cx,cy,_,hx,hy,_,_,_,_,hu,_=>by
   cases hx; cases hy
   exact ⟨rfl,rfl,hu⟩
 | tx :: rx,ty :: ry,c,cx,cy,hl,hx,hy,hcx,hcy,mx,my,hu,hk=>by
   have h0 : dq L nx fx tx ny fy ty:=hk 0 (by simp) (by simp);have hk' : ∀ k (h1 : k < rx.length) (h2 : k < ry.length),dq L nx fx rx[k] ny fy ry[k]:=fun k h1 h2=>hk (k + 1) (by simpa using h1) (by simpa using h2);have hl' : rx.length = ry.length:=by simpa using hl
   have mtx:=mx tx (List.mem_cons_self ..);have mty:=my ty (List.mem_cons_self ..);have mx' : ∀ t ∈ rx,-1 ≤ t:=fun t ht=>mx t (List.mem_cons_of_mem _ ht);have my' : ∀ t ∈ ry,-1 ≤ t:=fun t ht=>my t (List.mem_cons_of_mem _ ht);unfold ik at hx hy
   split at hx
   ·rename_i ltx;have hcx0:=em hx
    have key : ty < (c : Int) ∧ tx = ty:=by
     have back : ∀ (hty : 0 ≤ ty),0 ≤ tx:=fun hty=>by
      refine (h0.symm.live ?_).pos;obtain ⟨y,rfl⟩:=Int.eq_ofNat_of_zero_le hty;refine H.ly y ?_
      split at hy
      ·have:=em hy; omega
      ·split at hy
       ·have:=em hy; omega
       ·cases hy
     by_cases hneg : tx < 0
     ·have : ¬ 0 ≤ ty:=fun h=>by have:=back h; omega
      omega
     ·obtain ⟨x,rfl⟩:=Int.eq_ofNat_of_zero_le (Int.not_lt.1 hneg);have hxc : x < c:=by omega
      have hlive:=h0.live (H.lx x (by omega));obtain ⟨y,rfl⟩:=Int.eq_ofNat_of_zero_le hlive.pos
      have hyn : y < ny.length:=by
       split at hy
       ·have:=em hy; omega
       ·split at hy
        ·have:=em hy; omega
        ·cases hy
      have : x = y:=H.dy x y (by
       have : c ≤ cy:=by
        split at hy
        ·exact em hy
        ·split at hy
         ·have:=em hy; omega
         ·cases hy
       omega) hyn ((hu x hxc).symm.trans h0)
      subst this;exact ⟨ltx,rfl⟩
    obtain ⟨lty,rfl⟩:=key;rw [if_pos lty] at hy;obtain ⟨e1,e2,e3⟩:=r5 H rx ry c cx cy hl' hx hy hcx hcy mx' my' hu hk';exact ⟨by rw [e1],e2,e3⟩
   ·split at hx
    ·rename_i nlt htx;subst htx;have hcx0:=em hx;have hlive:=h0.live (H.lx c (by omega));obtain ⟨y,rfl⟩:=Int.eq_ofNat_of_zero_le hlive.pos
     split at hy
     ·rename_i lty;have hcy0:=em hy;have : c = y:=H.dx c y (by omega) (by omega) (h0.trans (hu y (by omega)).symm);omega
     ·split at hy
      ·rename_i hty;have : y = c:=by omega
       subst this
       obtain ⟨e1,e2,e3⟩:=r5 H rx ry (y + 1) cx cy hl' hx hy hcx hcy mx' my' (fun u hu'=>by
        rcases Nat.lt_or_ge u y with h | h
        ·exact hu u h
        ·obtain rfl : u = y:=by omega
         exact h0) hk'
       exact ⟨by rw [e1],e2,e3⟩
      ·cases hy
    ·cases hx
theorem yc {L : Nat} {nx : List (List Int)} {fx : List Bool} {ny : List (List Int)} {fy : List Bool} (H : Pair2 L nx fx ny fy)
  (wx : ∀ i (h : i < nx.length),nx[i].length = L ∧ ∀ t ∈ nx[i],-1 ≤ t) (wy : ∀ i (h : i < ny.length),ny[i].length = L ∧ ∀ t ∈ ny[i],-1 ≤ t) :
  ∀ (rx ry : List (List Int)) (i c : Nat),nx.drop i = rx → ny.drop i = ry → scan c i rx = some nx.length → scan c i ry = some ny.length → i ≤ nx.length → i ≤ ny.length →
    (∀ u : Nat,u < c → dq L nx fx u ny fy u) → rx = ry ∧ nx.length = ny.length ∧ ∀ u : Nat,u < nx.length → dq L nx fx u ny fy u
 | [],[],i,c,_,_,hx,hy,_,_,hu=>by
   cases hx
   unfold scan at hy;simp only [Option.some.injEq] at hy;exact ⟨rfl,hy,hu⟩
 | [],_ :: _,i,c,ex,ey,hx,hy,hix,hiy,hu=>by
   exfalso
   have : nx.length ≤ i:=List.drop_eq_nil_iff.1 ex;unfold scan at hx hy;simp only [Option.some.injEq] at hx
   split at hy
   ·omega
   ·cases hy
 | _ :: _,[],i,c,ex,ey,hx,hy,hix,hiy,hu=>by
   exfalso
   have : ny.length ≤ i:=List.drop_eq_nil_iff.1 ey;unfold scan at hx hy;simp only [Option.some.injEq] at hy
   split at hx
   ·omega
   ·cases hx
 | rx :: rsx,ry :: rsy,i,c,ex,ey,hx,hy,hix,hiy,hu=>by
   have hi1 : i < nx.length:=by
    refine Nat.lt_of_not_le fun h=>?_;rw [List.drop_eq_nil_iff.2 h] at ex; cases ex
   have hi2 : i < ny.length:=by
    refine Nat.lt_of_not_le fun h=>?_;rw [List.drop_eq_nil_iff.2 h] at ey; cases ey
   rw [List.drop_eq_getElem_cons hi1] at ex;rw [List.drop_eq_getElem_cons hi2] at ey;obtain ⟨rfl,ex'⟩:=List.cons.inj ex;obtain ⟨rfl,ey'⟩:=List.cons.inj ey;unfold scan at hx hy
   split at hx
   ·rename_i hic;rw [if_pos hic] at hy
    split at hx
    ·rename_i c1 h1
     split at hy
     ·rename_i c2 h2;obtain ⟨l1,m1⟩:=wx i hi1;obtain ⟨l2,m2⟩:=wy i hi2
      obtain ⟨e1,rfl,e3⟩:=r5 H nx[i] ny[i] c c1 c2 (by rw [l1,l2]) h1 h2 (aae hx) (aae hy) m1 m2 hu (fun k k1 k2=>by
       have:=(hu i hic).step (c:=k) (by omega)
       rwa [i9 hi1 k1,i9 hi2 k2] at this)
      obtain ⟨f1,f2,f3⟩:=yc H wx wy rsx rsy (i + 1) c1 ex' ey' hx hy hi1 hi2 e3;exact ⟨by rw [e1,f1],f2,f3⟩
     ·cases hy
    ·cases hx
   ·cases hx
theorem Canon.rows {L s : Int} {next : List (List Int)} {fin : List Bool} (h : Canon L s next fin) : ∀ i (h : i < next.length),next[i].length = L.toNat ∧ ∀ t ∈ next[i],-1 ≤ t:=fun i hi=>by
 obtain ⟨h1,h2⟩:=h.shape.rows i hi;refine ⟨by omega,fun t ht=>?_⟩;obtain ⟨k,hk,rfl⟩:=List.mem_iff_getElem.1 ht;exact (h2 k hk).1
theorem tg {L s1 s2 : Int} {n1 n2 : List (List Int)} {f1 f2 : List Bool} (h1 : Canon L s1 n1 f1) (h2 : Canon L s2 n2 f2) (h : dq L.toNat n1 f1 s1 n2 f2 s2) : s1 = s2 ∧ n1 = n2 ∧ f1 = f2:=by
 have hp : 0 < n1.length ↔ 0 < n2.length:=by
  constructor
  ·intro hn
   have:=h1.s0 hn
   subst this
   have:=(h.live (h1.live 0 hn)).pos
   have:=h2.shape.s2
   omega
  ·intro hn
   have:=h2.s0 hn
   subst this
   have:=(h.symm.live (h2.live 0 hn)).pos
   have:=h1.shape.s2
   omega
 by_cases hn : 0 < n1.length
 ·have hn2:=hp.1 hn;have e1:=h1.s0 hn;have e2:=h2.s0 hn2;subst e1 e2
  obtain ⟨g1,g2,g3⟩:=yc ⟨h1.live,h2.live,h1.dist,h2.dist⟩ h1.rows h2.rows n1 n2 0 1 rfl rfl (h1.num hn) (h2.num hn2) (Nat.zero_le _) (Nat.zero_le _) (fun u hu=>by
   obtain rfl : u = 0:=by omega
   exact h)
  refine ⟨rfl,g1,List.ext_getElem (by rw [h1.shape.fin,h2.shape.fin,g2]) fun i i1 i2=>?_⟩
  have:=g3 i (by have:=h1.shape.fin; omega) [] (Word.nil _)
  simpa [fu,fo,i1,i2] using this
 ·have hn2 : ¬ 0 < n2.length:=fun h=>hn (hp.2 h);have a1:=h1.shape.s1;have a2:=h1.shape.s2;have b1:=h2.shape.s1;have b2:=h2.shape.s2;refine ⟨by omega,?_,?_⟩
  ·rw [List.length_eq_zero_iff.1 (by omega : n1.length = 0),List.length_eq_zero_iff.1 (by omega : n2.length = 0)]
  ·have c1:=h1.shape.fin;have c2:=h2.shape.fin;rw [List.length_eq_zero_iff.1 (by omega : f1.length = 0),List.length_eq_zero_iff.1 (by omega : f2.length = 0)]
end
section
def plcM (place : List Int) (t : Int) : Int:=if 0 ≤ t then place.getD t.toNat 0 else -1
theorem gj {place : List Int} {t : Int} (h : t < 0) : plcM place t = -1:=by rw [plcM,if_neg (by omega)]
theorem ab0 {place : List Int} {t : Nat} (h : t < place.length) : plcM place t = place[t]:=by
 rw [plcM,if_pos (by omega)];simp [List.getD_eq_getElem?_getD,h]
def tgtM (next : List (List Int)) (r : Int) (c : Nat) : Int:=(next.getD r.toNat []).getD c (-1)
theorem dv {next : List (List Int)} {r : Int} (h : 0 ≤ r) (c : Nat) : dd next r c = tgtM next r c:=by
 rw [dd,if_neg (by omega)]; rfl
def bj (place : List Int) (next : List (List Int)) (L : Nat) (r : Int) : List Int:=(List.range L).map fun c=>plcM place (tgtM next r c)
structure FS where
 rows : List Int
 place : List Int
def FS.step (next : List (List Int)) (r : Int) (s : FS) (c : Nat) : FS:=
 if 0 ≤ (next.getD r.toNat []).getD c (-1) ∧ s.place.getD ((next.getD r.toNat []).getD c (-1)).toNat 0 < 0 then ⟨s.rows ++ [(next.getD r.toNat []).getD c (-1)],s.place.set ((next.getD r.toNat []).getD c (-1)).toNat s.rows.length⟩ else s
def FS.row (next : List (List Int)) (r : Int) (L : Nat) (s : FS) : FS:=(List.range L).foldl (FS.step next r) s
theorem FS.row_succ (next : List (List Int)) (r : Int) (c : Nat) (s : FS) : FS.row next r (c + 1) s = FS.step next r (FS.row next r c s) c:=by simp [FS.row,List.range_succ]
def dg (next : List (List Int)) (L : Nat) : Nat → Nat → FS → FS
 | 0,_,s=>s
 | g + 1,i,s=>if i < s.rows.length then dg next L g (i + 1) (s.row next (s.rows.getD i 0) L) else s
def d7 (s : Int) (next : List (List Int)) (L : Nat) : FS:=
 if s < 0 then ⟨[],List.replicate next.length (-1)⟩ else dg next L next.length 0 ⟨[s],(List.replicate next.length (-1)).set s.toNat 0⟩
theorem FS.step_rows {next : List (List Int)} {r x : Int} {c i : Nat} {s : FS} (h : s.rows[i]? = some x) : (s.step next r c).rows[i]? = some x:=by
 unfold FS.step
 split
 ·rw [List.getElem?_append_left (List.getElem?_eq_some_iff.1 h).1]; exact h
 ·exact h
structure FOk (n : Nat) (s : FS) : Prop where
 p : s.place.length = n
 r : ∀ x ∈ s.rows,0 ≤ x ∧ x < n ∧ 0 ≤ s.place.getD x.toNat 0
 d : s.rows.Nodup
theorem FOk.cap {n : Nat} {s : FS} (h : FOk n s) : s.rows.length ≤ n:=by
 have:=h.d.length_le_of_subset (l₂:=(List.range n).map (fun (i : Nat)=>(i : Int))) (fun x hx=>by
  obtain ⟨a,b,_⟩:=h.r x hx;exact List.mem_map.2 ⟨x.toNat,List.mem_range.2 (by omega),by omega⟩)
 simpa using this
theorem FOk.step {n : Nat} {next : List (List Int)} {s : FS} {r : Int} {c : Nat} (h : FOk n s) (ht : (next.getD r.toNat []).getD c (-1) < n) : FOk n (s.step next r c):=by
 unfold FS.step
 generalize (next.getD r.toNat []).getD c (-1) = t at *
 split
 ·rename_i h0;have hlt : t.toNat < s.place.length:=by rw [h.p]; omega
  refine ⟨by simp [h.p],fun x hx=>?_,List.nodup_append.2 ⟨h.d,by simp,fun x hx y hy=>?_⟩⟩
  ·rcases List.mem_append.1 hx with hx | hx
   ·obtain ⟨a,b,e⟩:=h.r x hx;refine ⟨a,b,?_⟩
    by_cases he : t.toNat = x.toNat
    ·rw [he] at h0; omega
    ·simpa [List.getD_eq_getElem?_getD,List.getElem?_set_ne he] using e
   ·rw [List.mem_singleton.1 hx];refine ⟨h0.1,ht,?_⟩;simp [List.getD_eq_getElem?_getD,hlt]
  ·rw [List.mem_singleton.1 hy];rintro rfl
   have:=(h.r x hx).2.2
   omega
 ·exact h
structure FIn (n : Nat) (s : FS) : Prop where
 ok : FOk n s
 at' : ∀ j (h : j < s.rows.length),s.place.getD (s.rows[j]).toNat 0 = (j : Int)
 of : ∀ t : Nat,t < n → 0 ≤ s.place.getD t 0 → ∃ j : Nat,s.place.getD t 0 = (j : Int) ∧ s.rows[j]? = some (t : Int)
 low : ∀ t : Nat,t < n → -1 ≤ s.place.getD t 0
structure FLe (n : Nat) (s f : FS) : Prop where
 rows : ∀ (j : Nat) (x : Int),s.rows[j]? = some x → f.rows[j]? = some x
 place : ∀ t : Nat,t < n → 0 ≤ s.place.getD t 0 → f.place.getD t 0 = s.place.getD t 0
theorem FLe.refl (n : Nat) (s : FS) : FLe n s s:=⟨fun _ _ h=>h,fun _ _ _=>rfl⟩
theorem FLe.trans {n : Nat} {a b c : FS} (h : FLe n a b) (k : FLe n b c) : FLe n a c:=
 ⟨fun j x e=>k.rows j x (h.rows j x e),fun t ht e=>by rw [k.place t ht (by rw [h.place t ht e]; exact e),h.place t ht e]⟩
theorem FS.step_def (next : List (List Int)) (r : Int) (s : FS) (c : Nat) : s.step next r c =
  if 0 ≤ tgtM next r c ∧ s.place.getD (tgtM next r c).toNat 0 < 0 then ⟨s.rows ++ [tgtM next r c],s.place.set (tgtM next r c).toNat s.rows.length⟩ else s:=rfl
theorem dp {l : List Int} {i j : Nat} {x d : Int} : (l.set i x).getD j d = if i = j ∧ i < l.length then x else l.getD j d:=by
 simp only [List.getD_eq_getElem?_getD,List.getElem?_set]
 by_cases h : i = j
 ·subst h
  by_cases h2 : i < l.length
  ·simp [h2]
  ·simp [h2]
 ·simp [h]
theorem FIn.step {n : Nat} {next : List (List Int)} {s : FS} {r : Int} {c : Nat} (h : FIn n s) (ht : tgtM next r c < n) : FIn n (s.step next r c) ∧ FLe n s (s.step next r c):=by
 have hok:=h.ok.step (next:=next) (r:=r) (c:=c) ht;rw [FS.step_def] at hok ⊢
 generalize tgtM next r c = t at *
 split
 ·rename_i h0;rw [if_pos h0] at hok;obtain ⟨t,rfl⟩:=Int.eq_ofNat_of_zero_le h0.1;have hlt : t < s.place.length:=by rw [h.ok.p]; omega
  simp only [Int.toNat_natCast] at h0 hok ⊢;refine ⟨⟨hok,fun j hj=>?_,fun u hu h1=>?_,fun u hu=>?_⟩,⟨fun j x e=>?_,fun u hu h1=>?_⟩⟩
  ·rw [dp]
   by_cases hj2 : j < s.rows.length
   ·have he : (s.rows ++ [(t : Int)])[j] = s.rows[j]:=List.getElem_append_left hj2;simp only [he];have h2:=h.at' j hj2
    have : ¬ (t = (s.rows[j]).toNat ∧ t < s.place.length):=by
     rintro ⟨e,_⟩;rw [e,h2] at h0;omega
    rw [if_neg this,h2]
   ·have hj3 : j = s.rows.length:=by simp at hj; omega
    subst hj3;have he : (s.rows ++ [(t : Int)])[s.rows.length] = t:=by simp
    simp only [he,Int.toNat_natCast];rw [if_pos ⟨trivial,hlt⟩]
  ·rw [dp] at h1 ⊢
   by_cases e : t = u
   ·subst e;rw [if_pos ⟨rfl,hlt⟩];exact ⟨s.rows.length,rfl,by simp⟩
   ·rw [if_neg (fun h=>e h.1)] at h1 ⊢;obtain ⟨j,e1,e2⟩:=h.of u hu h1;exact ⟨j,e1,by rw [List.getElem?_append_left (List.getElem?_eq_some_iff.1 e2).1]; exact e2⟩
  ·rw [dp]
   split
   ·omega
   ·exact h.low u hu
  ·show (s.rows ++ [(t : Int)])[j]? = some x;rw [List.getElem?_append_left (List.getElem?_eq_some_iff.1 e).1]; exact e
  ·show (s.place.set t _).getD u 0 = _;rw [dp,if_neg];rintro ⟨rfl,_⟩;omega
 ·exact ⟨h,FLe.refl _ _⟩
theorem FIn.cols {n : Nat} {next : List (List Int)} {r : Int} : ∀ (cs : List Nat) (s : FS),FIn n s → (∀ c ∈ cs,tgtM next r c < n) → FIn n (cs.foldl (FS.step next r) s) ∧ FLe n s (cs.foldl (FS.step next r) s)
 | [],s,h,_=>⟨h,FLe.refl _ _⟩
 | c :: cs,s,h,ht=>by
   obtain ⟨h1,h2⟩:=h.step (ht c (List.mem_cons_self ..));obtain ⟨h3,h4⟩:=FIn.cols cs _ h1 (fun x hx=>ht x (List.mem_cons_of_mem _ hx));exact ⟨h3,h2.trans h4⟩
theorem y6 {n : Nat} {next : List (List Int)} {r : Int} {f : FS} : ∀ (cs : List Nat) (s : FS),FIn n s → (∀ c ∈ cs,-1 ≤ tgtM next r c ∧ tgtM next r c < n) → FLe n (cs.foldl (FS.step next r) s) f →
  ik s.rows.length (cs.map fun c=>plcM f.place (tgtM next r c)) = some (cs.foldl (FS.step next r) s).rows.length ∧ ∀ c ∈ cs,0 ≤ tgtM next r c → 0 ≤ plcM f.place (tgtM next r c)
 | [],s,h,_,_=>⟨rfl,fun _ h=>by cases h⟩
 | c :: cs,s,h,ht,hf=>by
   obtain ⟨t1,t2⟩:=ht c (List.mem_cons_self ..);have ht' : ∀ x ∈ cs,-1 ≤ tgtM next r x ∧ tgtM next r x < n:=fun x hx=>ht x (List.mem_cons_of_mem _ hx);obtain ⟨h1,h2⟩:=h.step t2;obtain ⟨h3,h4⟩:=FIn.cols cs _ h1 (fun x hx=>(ht' x hx).2);obtain ⟨i1,i2⟩:=y6 cs _ h1 ht' hf;have hsf : FLe n s f:=h2.trans (h4.trans hf);have h1f : FLe n (s.step next r c) f:=h4.trans hf;rw [List.map_cons,List.foldl_cons,ik]
   have key : (0 ≤ tgtM next r c → 0 ≤ plcM f.place (tgtM next r c)) ∧ ((plcM f.place (tgtM next r c) < (s.rows.length : Int) ∧ (s.step next r c).rows.length = s.rows.length) ∨ (plcM f.place (tgtM next r c) = (s.rows.length : Int) ∧ (s.step next r c).rows.length = s.rows.length + 1)):=by
    by_cases hneg : tgtM next r c < 0
    ·refine ⟨fun h=>by omega,.inl ⟨by rw [gj hneg]; omega,?_⟩⟩;rw [FS.step_def,if_neg (by omega)]
    ·obtain ⟨t,hte⟩:=Int.eq_ofNat_of_zero_le (Int.not_lt.1 hneg);have htn : t < n:=by omega
     by_cases hnew : s.place.getD t 0 < 0
     ·have hst : s.step next r c = ⟨s.rows ++ [(t : Int)],s.place.set t s.rows.length⟩:=by
       rw [FS.step_def,hte,if_pos ⟨by omega,by simpa using hnew⟩]; simp
      have hpl : (s.step next r c).place.getD t 0 = s.rows.length:=by
       rw [hst];show (s.place.set t _).getD t 0 = _;rw [dp,if_pos ⟨rfl,by rw [h.ok.p]; exact htn⟩]
      have : plcM f.place t = s.rows.length:=by
       rw [plcM,if_pos (by omega),Int.toNat_natCast,h1f.place t htn (by rw [hpl]; omega),hpl]
      rw [hte,this];exact ⟨fun _=>by omega,.inr ⟨rfl,by rw [hst]; simp⟩⟩
     ·have hst : s.step next r c = s:=by
       rw [FS.step_def,hte,if_neg];rintro ⟨_,h⟩;exact hnew (by simpa using h)
      obtain ⟨j,e1,e2⟩:=h.of t htn (by omega);have hj:=(List.getElem?_eq_some_iff.1 e2).1
      have : plcM f.place t = j:=by
       rw [plcM,if_pos (by omega),Int.toNat_natCast,hsf.place t htn (by omega),e1]
      rw [hte,this,hst];exact ⟨fun _=>by omega,.inl ⟨by omega,rfl⟩⟩
   obtain ⟨k0,k⟩:=key;refine ⟨?_,fun x hx=>?_⟩
   ·rcases k with ⟨k1,k2⟩ | ⟨k1,k2⟩
    ·rw [if_pos k1,← k2]; exact i1
    ·rw [if_neg (by omega),if_pos k1,← k2]; exact i1
   ·rcases List.mem_cons.1 hx with rfl | hx
    ·exact k0
    ·exact i2 x hx
theorem kj {n : Nat} {next : List (List Int)} {L : Nat} (hn : ∀ r : Int,0 ≤ r → r < n → ∀ c,c < L → -1 ≤ tgtM next r c ∧ tgtM next r c < n) : ∀ (g i : Nat) (s : FS),FIn n s → n ≤ g + i → i ≤ s.rows.length →
  FIn n (dg next L g i s) ∧ FLe n s (dg next L g i s) ∧ scan s.rows.length i (((dg next L g i s).rows.drop i).map (bj (dg next L g i s).place next L)) = some (dg next L g i s).rows.length ∧
   ∀ j,j < (dg next L g i s).rows.length → i ≤ j → ∀ c,c < L → 0 ≤ tgtM next ((dg next L g i s).rows.getD j 0) c → 0 ≤ plcM (dg next L g i s).place (tgtM next ((dg next L g i s).rows.getD j 0) c)
 | 0,i,s,h,hg,hi=>by
   have hc:=h.ok.cap;have : i = s.rows.length:=by omega
   subst this;refine ⟨h,FLe.refl _ _,?_,fun j hj hij=>?_⟩
   ·unfold dg; simp [scan]
   ·unfold dg at hj; omega
 | g + 1,i,s,h,hg,hi=>by
   unfold dg
   split
   ·rename_i hlt;have hr:=h.ok.r _ (List.getElem_mem hlt);have hgd : s.rows.getD i 0 = s.rows[i]:=by simp [List.getD_eq_getElem?_getD,hlt]
    rw [hgd];have hcs : ∀ c ∈ List.range L,-1 ≤ tgtM next s.rows[i] c ∧ tgtM next s.rows[i] c < n:=fun c hc=>hn _ hr.1 hr.2.1 c (List.mem_range.1 hc);obtain ⟨h1,h2⟩:=FIn.cols (List.range L) s h (fun c hc=>(hcs c hc).2)
    have hlen : s.rows.length ≤ ((List.range L).foldl (FS.step next s.rows[i]) s).rows.length:=by
     have:=h2.rows (s.rows.length - 1) _ (List.getElem?_eq_getElem (by omega))
     have:=(List.getElem?_eq_some_iff.1 this).1
     omega
    obtain ⟨i1,i2,i3,i4⟩:=kj hn g (i + 1) (s.row next s.rows[i] L) h1 (by omega) (by unfold FS.row; omega);have hs:=y6 (List.range L) s h hcs i2;refine ⟨i1,FLe.trans h2 i2,?_,fun j hj hij c hc=>?_⟩
    ·have hri:=(h2.trans i2).rows i _ (List.getElem?_eq_getElem hlt);obtain ⟨hlt2,hre⟩:=List.getElem?_eq_some_iff.1 hri;rw [List.drop_eq_getElem_cons hlt2,List.map_cons,scan,if_pos hlt,hre];have : ik s.rows.length (bj (dg next L g (i + 1) (FS.row next s.rows[i] L s)).place next L s.rows[i]) = some (FS.row next s.rows[i] L s).rows.length:=hs.1;rw [this];exact i3
    ·rcases Nat.lt_or_ge i j with hlt3 | hge
     ·exact i4 j hj hlt3 c hc
     ·obtain rfl : j = i:=by omega
      have hri:=(h2.trans i2).rows j _ (List.getElem?_eq_getElem hlt);have hre : (dg next L g (j + 1) (FS.row next s.rows[j] L s)).rows.getD j 0 = s.rows[j]:=by rw [List.getD_eq_getElem?_getD,hri]; rfl
      rw [hre];exact hs.2 c (List.mem_range.2 hc)
   ·rename_i hge;have : i = s.rows.length:=by omega
    subst this;refine ⟨h,FLe.refl _ _,by simp [scan],fun j hj hij=>by omega⟩
structure Found (s : Int) (next : List (List Int)) (L : Nat) (f : FS) : Prop where
 inn : FIn next.length f
 first : 0 ≤ s → f.rows[0]? = some s ∧ scan 1 0 (f.rows.map (bj f.place next L)) = some f.rows.length
 none : s < 0 → f.rows = []
 closed : ∀ j (h : j < f.rows.length),∀ c,c < L → 0 ≤ tgtM next f.rows[j] c → 0 ≤ plcM f.place (tgtM next f.rows[j] c)
theorem dm {L s : Int} {next : List (List Int)} {fin : List Bool} (h : Shape L s next fin) : ∀ r : Int,0 ≤ r → r < next.length → ∀ c,c < L.toNat → -1 ≤ tgtM next r c ∧ tgtM next r c < next.length:=fun r h0 h1 c hc=>by
 rw [← dv h0];exact e8 h h1 (by omega) (by have:=h.L0; omega)
theorem ev {n i : Nat} {x d : Int} (h : i < n) : (List.replicate n x).getD i d = x:=by simp [List.getD_eq_getElem?_getD,h]
theorem qz {L s : Int} {next : List (List Int)} {fin : List Bool} (h : Shape L s next fin) : Found s next L.toNat (d7 s next L.toNat):=by
 unfold d7
 split
 ·rename_i hs;refine ⟨⟨⟨by simp,fun x hx=>by simp at hx,by simp⟩,fun j hj=>by simp at hj,fun t ht h0=>?_,fun t ht=>?_⟩,fun h0=>by omega,fun _=>rfl,fun j hj=>by simp at hj⟩
  ·exfalso
   simp only [] at h0;rw [ev ht] at h0; omega
  ·simp only [];rw [ev ht]; omega
 ·rename_i hs;obtain ⟨k,rfl⟩:=Int.eq_ofNat_of_zero_le (Int.not_lt.1 hs);have hk : k < next.length:=by have:=h.s2; omega
  simp only [Int.toNat_natCast]
  have hI : FIn next.length ⟨[(k : Int)],(List.replicate next.length (-1)).set k 0⟩:=by
   refine ⟨⟨by simp,fun x hx=>?_,by simp⟩,fun j hj=>?_,fun t ht h0=>?_,fun t ht=>?_⟩
   ·rw [List.mem_singleton.1 hx];refine ⟨by omega,by omega,?_⟩;simp only [Int.toNat_natCast];rw [dp,if_pos ⟨rfl,by simpa using hk⟩]; omega
   ·have : j = 0:=by simp at hj; omega
    subst this;simp only [List.getElem_cons_zero,Int.toNat_natCast];rw [dp,if_pos ⟨rfl,by simpa using hk⟩]; rfl
   ·simp only [] at h0 ⊢;rw [dp] at h0 ⊢
    split at h0
    ·rename_i e;rw [if_pos e];exact ⟨0,rfl,by simp [e.1]⟩
    ·rw [ev ht] at h0; omega
   ·simp only [];rw [dp]
    split
    ·omega
    ·rw [ev ht]; omega
  obtain ⟨g1,g2,g3,g4⟩:=kj (L:=L.toNat) (dm h) next.length 0 _ hI (by omega) (by simp);refine ⟨g1,fun _=>⟨g2.rows 0 k rfl,by simpa using g3⟩,fun h=>by omega,fun j hj c hc=>?_⟩
  have:=g4 j hj (Nat.zero_le _) c hc
  rwa [List.getD_eq_getElem?_getD,List.getElem?_eq_getElem hj] at this
theorem e7 (place : List Int) (next : List (List Int)) (L : Nat) (r : Int) : (bj place next L r).length = L:=by simp [bj]
theorem it {place : List Int} {next : List (List Int)} {L c : Nat} {r : Int} (h : c < (bj place next L r).length) : (bj place next L r)[c] = plcM place (tgtM next r c):=by simp [bj]
def bt (f : FS) (fin : List Bool) : List Bool:=f.rows.map fun r=>fin.getD r.toNat false
theorem sz {L s : Int} {next : List (List Int)} {fin : List Bool} (h : Shape L s next fin) {f : FS} (hf : Found s next L.toNat f) :
  ∀ (w : List Nat) (t : Int),Word L.toNat w → t < next.length → (0 ≤ t → 0 ≤ plcM f.place t) → accM (f.rows.map (bj f.place next L.toNat)) (bt f fin) (plcM f.place t) w = accM next fin t w
 | w,t,hw,hn,ht=>by
   by_cases hneg : t < 0
   ·rw [gj hneg,di _ _ w (by omega),di _ _ w hneg]
   ·obtain ⟨k,rfl⟩:=Int.eq_ofNat_of_zero_le (Int.not_lt.1 hneg);have hk : k < next.length:=by omega
    have hp:=ht (by omega);have hpe : plcM f.place k = f.place.getD k 0:=by rw [plcM,if_pos (by omega)]; rfl
    rw [hpe] at hp ⊢;obtain ⟨j,e1,e2⟩:=hf.inn.of k hk hp;obtain ⟨hj,e3⟩:=List.getElem?_eq_some_iff.1 e2;rw [e1]
    cases w with
    | nil=>
      rw [fu,fu];simp [fo,bt,hj,e3]
    | cons c w=>
      rw [ef,ef];have hc:=hw.head
      have hst : dd (f.rows.map (bj f.place next L.toNat)) j c = plcM f.place (dd next k c):=by
       rw [i9 (by simpa using hj) (by simp only [List.getElem_map,e7]; exact hc)];simp only [List.getElem_map];rw [it,e3,dv (by omega)]
      rw [hst];have hrg:=e8 h (st:=k) (l:=c) (by omega) (by omega) (by have:=h.L0; omega);refine sz h hf w _ hw.tail hrg.2 (fun h0=>?_)
      have:=hf.closed j hj c hc
      rw [e3] at this;rw [dv (by omega)] at h0 ⊢;exact this h0
 termination_by w=>w.length
theorem aa1 {L s : Int} {next : List (List Int)} {fin : List Bool} (h : Shape L s next fin) {f : FS} (hf : Found s next L.toNat f)
  (hl : ∀ i : Nat,i < next.length → Live L.toNat next fin i) (hd : ∀ i j : Nat,i < next.length → j < next.length → dq L.toNat next fin i next fin j → i = j) :
  Canon L (if f.rows.length = 0 then -1 else 0) (f.rows.map (bj f.place next L.toNat)) (bt f fin) ∧
   dq L.toNat (f.rows.map (bj f.place next L.toNat)) (bt f fin) (if f.rows.length = 0 then -1 else 0) next fin s:=by
 have hlen : (f.rows.map (bj f.place next L.toNat)).length = f.rows.length:=by simp
 have hrow : ∀ j (hj : j < f.rows.length),∃ k : Nat,k < next.length ∧ f.rows[j] = k ∧ plcM f.place k = j:=fun j hj=>by
  obtain ⟨a,b,_⟩:=hf.inn.ok.r _ (List.getElem_mem hj);obtain ⟨k,hk⟩:=Int.eq_ofNat_of_zero_le a;refine ⟨k,by omega,hk,?_⟩
  have:=hf.inn.at' j hj
  rw [hk] at this;rw [plcM,if_pos (by omega)]; exact this
 have hal : ∀ j (hj : j < f.rows.length),dq L.toNat (f.rows.map (bj f.place next L.toNat)) (bt f fin) j next fin f.rows[j]:=fun j hj w hw=>by
  obtain ⟨k,k1,k2,k3⟩:=hrow j hj;rw [k2,← sz h hf w k hw (by omega) (fun _=>by omega),k3]
 have hpos : 0 < f.rows.length ↔ 0 ≤ s:=by
  constructor
  ·intro h0;refine Int.not_lt.1 fun hn=>?_;rw [hf.none hn] at h0;simp at h0
  ·intro h0;exact (List.getElem?_eq_some_iff.1 (hf.first h0).1).1
 refine ⟨⟨⟨h.L0,by simp [bt],by split <;> omega,by split <;> omega,fun h0=>?_,fun k hk=>?_⟩,fun h0=>?_,fun i hi=>?_,fun i j hi hj he=>?_,fun h0=>?_⟩,?_⟩
 ·rw [hlen] at h0;rw [if_neg (by omega)]; omega
 ·have hk' : k < f.rows.length:=by simpa using hk
  simp only [List.getElem_map];refine ⟨by rw [e7]; have:=h.L0; omega,fun c hc=>?_⟩;rw [it];rw [e7] at hc;rw [show ((List.map (bj f.place next L.toNat) f.rows).length : Int) = f.rows.length by simp];obtain ⟨r,r1,r2,r3⟩:=hrow k hk';obtain ⟨t1,t2⟩:=dm h f.rows[k] (by omega) (by omega) c hc
  by_cases hneg : tgtM next f.rows[k] c < 0
  ·rw [gj hneg]; omega
  ·have hc2:=hf.closed k hk' c hc (by omega);obtain ⟨t,ht⟩:=Int.eq_ofNat_of_zero_le (Int.not_lt.1 hneg);rw [ht] at hc2 t2 ⊢;have hpe : plcM f.place t = f.place.getD t 0:=by rw [plcM,if_pos (by omega)]; rfl
   rw [hpe] at hc2 ⊢;obtain ⟨j,e1,e2⟩:=hf.inn.of t (by omega) hc2
   have:=(List.getElem?_eq_some_iff.1 e2).1
   omega
 ·rw [hlen] at h0;rw [if_neg (by omega)]
 ·rw [hlen] at hi;obtain ⟨k,k1,k2,k3⟩:=hrow i hi
  have:=(hal i hi).symm
  rw [k2] at this;exact this.live (hl k k1)
 ·rw [hlen] at hi hj;obtain ⟨k,k1,k2,k3⟩:=hrow i hi;obtain ⟨l,l1,l2,l3⟩:=hrow j hj;have a1:=hal i hi;have a2:=hal j hj;rw [k2] at a1;rw [l2] at a2
  have:=hd k l k1 l1 ((a1.symm.trans he).trans a2)
  subst this;omega
 ·rw [hlen] at h0 ⊢;exact (hf.first (hpos.1 h0)).2
 ·split
  ·rename_i h0
   have hs : s < 0:=by
    refine Int.not_le.1 fun hn=>?_
    have:=hpos.2 hn
    omega
   intro w _;rw [di _ _ w (by decide),di _ _ w hs]
  ·rename_i h0;have hs:=hpos.1 (by omega);obtain ⟨g1,g2⟩:=hf.first hs;obtain ⟨g3,g4⟩:=List.getElem?_eq_some_iff.1 g1
   have:=hal 0 g3
   rwa [g4] at this
end
section
def dr (cls : List Int) (t : Int) : Int:=if 0 ≤ t then cls.getD t.toNat 0 else -1
def gx (next : List (List Int)) (cls : List Int) (a b L : Nat) : Bool:=
 decide (cls.getD a 0 = cls.getD b 0) && (List.range L).all fun c=>decide (dr cls ((next.getD a []).getD c (-1)) = dr cls ((next.getD b []).getD c (-1)))
theorem eo {cls : List Int} {t : Int} (h : t < 0) : dr cls t = -1:=by rw [dr,if_neg (by omega)]
theorem dh (cls : List Int) (t : Nat) : dr cls t = cls.getD t 0:=by rw [dr,if_pos (by omega)]; rfl
theorem ec {next : List (List Int)} {cls : List Int} {a b L : Nat} : gx next cls a b L = true ↔ cls.getD a 0 = cls.getD b 0 ∧ ∀ c,c < L → dr cls (tgtM next a c) = dr cls (tgtM next b c):=by
 rw [gx,Bool.and_eq_true,decide_eq_true_eq,List.all_eq_true];simp only [List.mem_range,decide_eq_true_eq,tgtM,Int.toNat_natCast]
structure LiveI (L : Nat) (next : List (List Int)) (fin out : List Bool) : Prop where
 len : out.length = next.length
 ends : ∀ i,fin.getD i false = true → out.getD i false = true
 live : ∀ i : Nat,i < next.length → out.getD i false = true → Live L next fin i
def oy (L : Nat) (next : List (List Int)) (out : List Bool) (i : Nat) : Prop:=
 out.getD i false = true ∨ ∀ c,c < L → ∀ t : Nat,tgtM next i c = t → out.getD t false = false
theorem sk {L : Nat} {s : Int} {next : List (List Int)} {fin out : List Bool} (hs : Shape L s next fin) (h : LiveI L next fin out) (hc : ∀ i,i < next.length → oy L next out i) :
  ∀ (w : List Nat) (i : Nat),i < next.length → Word L w → accM next fin i w = true → out.getD i false = true
 | [],i,hi,_,ha=>by
   refine h.ends i ?_
   simpa [fu,fo] using ha
 | c :: w,i,hi,hw,ha=>by
   rcases hc i hi with h1 | h1
   ·exact h1
   ·exfalso
    rw [ef,dv (by omega)] at ha;have hrg:=dm (L:=(L : Int)) hs i (by omega) (by omega) c (by simpa using hw.head)
    by_cases hneg : tgtM next i c < 0
    ·rw [di _ _ w hneg] at ha; cases ha
    ·obtain ⟨t,ht⟩:=Int.eq_ofNat_of_zero_le (Int.not_lt.1 hneg);rw [ht] at ha
     have:=sk hs h hc w t (by omega) hw.tail ha
     rw [h1 c hw.head t ht] at this
     cases this
theorem ai0 {L : Nat} {s : Int} {next : List (List Int)} {fin out : List Bool} (hs : Shape L s next fin) (h : LiveI L next fin out) (hc : ∀ i,i < next.length → oy L next out i) (i : Nat) (hi : i < next.length) :
  out.getD i false = true ↔ Live L next fin i:=⟨h.live i hi,fun ⟨w,hw,ha⟩=>sk hs h hc w i hi hw ha⟩
theorem adl {L : Nat} {s : Int} {next : List (List Int)} {fin : List Bool} (hs : Shape L s next fin) : LiveI L next fin fin:=
 ⟨hs.fin,fun _ h=>h,fun i _ h=>⟨[],Word.nil _,by simpa [fu,fo] using h⟩⟩
theorem agd {L : Nat} {next : List (List Int)} {fin : List Bool} {i c t : Nat} (hc : c < L) (ht : tgtM next i c = t) (h : Live L next fin t) : Live L next fin i:=by
 obtain ⟨w,hw,ha⟩:=h;refine ⟨c :: w,hw.cons hc,?_⟩;rw [ef,dv (by omega),ht]; exact ha
theorem g6 {l : List Bool} {i j : Nat} {x d : Bool} : (l.set i x).getD j d = if i = j ∧ i < l.length then x else l.getD j d:=by
 simp only [List.getD_eq_getElem?_getD,List.getElem?_set]
 by_cases h : i = j
 ·subst h
  by_cases h2 : i < l.length
  ·simp [h2]
  ·simp [h2]
 ·simp [h]
theorem LiveI.set {L : Nat} {next : List (List Int)} {fin out : List Bool} (h : LiveI L next fin out) {i c t : Nat} (hc : c < L) (ht : tgtM next i c = t) (htn : t < next.length) (ho : out.getD t false = true) : LiveI L next fin (out.set i true):=
 ⟨by simp [h.len],fun j hj=>by
     rw [g6]; split
     ·rfl
     ·exact h.ends j hj,fun j hj hj2=>by
     rw [g6] at hj2
     split at hj2
     ·rename_i e;rw [← e.1];exact agd hc ht (h.live t htn ho)
     ·exact h.live j hj hj2⟩
structure Cls (L : Nat) (next : List (List Int)) (fin : List Bool) (cls : List Int) (m : Nat) : Prop where
 len : cls.length = next.length
 low : ∀ i,i < next.length → -1 ≤ cls.getD i 0
 live : ∀ i : Nat,i < next.length → (0 ≤ cls.getD i 0 ↔ Live L next fin i)
 same : ∀ i j : Nat,i < next.length → j < next.length → 0 ≤ cls.getD i 0 → 0 ≤ cls.getD j 0 → (cls.getD i 0 = cls.getD j 0 ↔ dq L next fin i next fin j)
 top : ∀ i,i < next.length → cls.getD i 0 < m
 hit : ∀ v : Nat,v < m → ∃ i : Nat,i < next.length ∧ cls.getD i 0 = v
structure Ref (L : Nat) (next : List (List Int)) (fin : List Bool) (out : List Int) (count : Nat) : Prop where
 len : out.length = next.length
 low : ∀ i,i < next.length → -1 ≤ out.getD i 0
 live : ∀ i : Nat,i < next.length → (0 ≤ out.getD i 0 ↔ Live L next fin i)
 sep : ∀ i j : Nat,i < next.length → j < next.length → 0 ≤ out.getD i 0 → 0 ≤ out.getD j 0 → dq L next fin i next fin j → out.getD i 0 = out.getD j 0
 fin : ∀ i j : Nat,i < next.length → j < next.length → 0 ≤ out.getD i 0 → out.getD i 0 = out.getD j 0 → fin.getD i false = fin.getD j false
 hit : ∀ v : Nat,v < count → ∃ i : Nat,i < next.length ∧ out.getD i 0 = v
structure Pass (L : Nat) (next : List (List Int)) (out nx : List Int) (m : Nat) : Prop where
 len : nx.length = next.length
 neg : ∀ i,i < next.length → out.getD i 0 < 0 → nx.getD i 0 = -1
 pos : ∀ i,i < next.length → 0 ≤ out.getD i 0 → 0 ≤ nx.getD i 0 ∧ nx.getD i 0 < m
 same : ∀ i j : Nat,i < next.length → j < next.length → 0 ≤ out.getD i 0 → 0 ≤ out.getD j 0 → (nx.getD i 0 = nx.getD j 0 ↔ gx next out i j L = true)
 hit : ∀ v : Nat,v < m → ∃ i : Nat,i < next.length ∧ nx.getD i 0 = v
theorem Pass.sign {L : Nat} {next : List (List Int)} {out nx : List Int} {m : Nat} (h : Pass L next out nx m) {i : Nat} (hi : i < next.length) : 0 ≤ nx.getD i 0 ↔ 0 ≤ out.getD i 0:=by
 constructor
 ·intro h0;refine Int.not_lt.1 fun hn=>?_
  have:=h.neg i hi hn
  omega
 ·intro h0; exact (h.pos i hi h0).1
theorem cls_tgt {L : Nat} {next : List (List Int)} {fin : List Bool} {out : List Int} {count : Nat} (h : Ref L next fin out count) {x y : Int} (hx : -1 ≤ x) (hx2 : x < next.length) (hy : -1 ≤ y) (hy2 : y < next.length) (ha : dq L next fin x next fin y) : dr out x = dr out y:=by
 have key : ∀ {x : Int},-1 ≤ x → x < next.length → ¬ Live L next fin x → dr out x = -1:=fun {x} hx hx2 hl=>by
  by_cases hneg : x < 0
  ·exact eo hneg
  ·obtain ⟨k,rfl⟩:=Int.eq_ofNat_of_zero_le (Int.not_lt.1 hneg);rw [dh];have h1:=h.low k (by omega);have h2 : ¬ 0 ≤ out.getD k 0:=fun h0=>hl ((h.live k (by omega)).1 h0);omega
 by_cases hl : Live L next fin x
 ·have hl2:=ha.live hl;obtain ⟨k,rfl⟩:=Int.eq_ofNat_of_zero_le hl.pos;obtain ⟨j,rfl⟩:=Int.eq_ofNat_of_zero_le hl2.pos;rw [dh,dh];exact h.sep k j (by omega) (by omega) ((h.live k (by omega)).2 hl) ((h.live j (by omega)).2 hl2) ha
 ·rw [key hx hx2 hl,key hy hy2 (fun h2=>hl (ha.symm.live h2))]
theorem Pass.ref {L : Nat} {s : Int} {next : List (List Int)} {fin : List Bool} {out nx : List Int} {count m : Nat} (hs : Shape L s next fin) (h : Ref L next fin out count) (k : Pass L next out nx m) : Ref L next fin nx m:=by
 refine ⟨k.len,fun i hi=>?_,fun i hi=>(k.sign hi).trans (h.live i hi),fun i j hi hj h1 h2 ha=>?_,fun i j hi hj h1 he=>?_,k.hit⟩
 ·by_cases h0 : 0 ≤ out.getD i 0
  ·have:=(k.pos i hi h0).1; omega
  ·rw [k.neg i hi (by omega)]; omega
 ·rw [k.sign hi] at h1;rw [k.sign hj] at h2;refine (k.same i j hi hj h1 h2).2 (ec.2 ⟨h.sep i j hi hj h1 h2 ha,fun c hc=>?_⟩);have t1:=dm (L:=(L : Int)) hs i (by omega) (by omega) c (by simpa using hc);have t2:=dm (L:=(L : Int)) hs j (by omega) (by omega) c (by simpa using hc)
  have:=ha.step hc
  rw [dv (by omega),dv (by omega)] at this;exact cls_tgt h t1.1 t1.2 t2.1 t2.2 this
 ·have h2 : 0 ≤ nx.getD j 0:=by rw [← he]; exact h1
  rw [k.sign hi] at h1;rw [k.sign hj] at h2
  have:=(ec.1 ((k.same i j hi hj h1 h2).1 he)).1
  exact h.fin i j hi hj h1 this
theorem Pass.count {L : Nat} {next : List (List Int)} {fin : List Bool} {out nx : List Int} {count m : Nat} (h : Ref L next fin out count) (k : Pass L next out nx m) :
  count ≤ m ∧ (count = m → ∀ i j : Nat,i < next.length → j < next.length → 0 ≤ out.getD i 0 → out.getD i 0 = out.getD j 0 → out.getD i 0 < count → nx.getD i 0 = nx.getD j 0):=by
 have hr : ∀ v : Nat,∃ i : Nat,v < count → i < next.length ∧ out.getD i 0 = v:=fun v=>by
  by_cases hv : v < count
  ·obtain ⟨i,h1,h2⟩:=h.hit v hv;exact ⟨i,fun _=>⟨h1,h2⟩⟩
  ·exact ⟨0,fun h=>(hv h).elim⟩
 obtain ⟨rep,hrep⟩:=Classical.axiomOfChoice hr;have back : ∀ i j : Nat,i < next.length → j < next.length → 0 ≤ out.getD i 0 → 0 ≤ out.getD j 0 → nx.getD i 0 = nx.getD j 0 → out.getD i 0 = out.getD j 0:=fun i j hi hj h1 h2 he=>(ec.1 ((k.same i j hi hj h1 h2).1 he)).1
 have hg : ∀ v,v < count → ∃ n : Nat,n < m ∧ nx.getD (rep v) 0 = n:=fun v hv=>by
  obtain ⟨h1,h2⟩:=hrep v hv;obtain ⟨a,b⟩:=k.pos _ h1 (by omega);obtain ⟨n,hn⟩:=Int.eq_ofNat_of_zero_le a;exact ⟨n,by omega,hn⟩
 have hnd : ((List.range count).map fun v=>nx.getD (rep v) 0).Nodup:=by
  refine List.pairwise_map.2 (List.Pairwise.imp_of_mem (R:=(· ≠ ·)) (fun {a b} ha hb hab he=>hab ?_) List.nodup_range);have ha:=hrep a (List.mem_range.1 ha);have hb:=hrep b (List.mem_range.1 hb)
  have:=back _ _ ha.1 hb.1 (by omega) (by omega) he
  omega
 have hsub : ∀ x ∈ (List.range count).map (fun v=>nx.getD (rep v) 0),x ∈ (List.range m).map (fun (i : Nat)=>(i : Int)):=fun x hx=>by
  obtain ⟨v,hv,rfl⟩:=List.mem_map.1 hx;obtain ⟨n,h1,h2⟩:=hg v (List.mem_range.1 hv);exact List.mem_map.2 ⟨n,List.mem_range.2 h1,h2.symm⟩
 refine ⟨by simpa using hnd.length_le_of_subset hsub,fun hcm i j hi hj h0 he hlt=>?_⟩
 have one : ∀ i : Nat,i < next.length → 0 ≤ out.getD i 0 → out.getD i 0 < count → nx.getD i 0 = nx.getD (rep (out.getD i 0).toNat) 0:=fun i hi h0 hlt=>by
  refine Classical.byContradiction fun hne=>?_
  have hnd2 : (nx.getD i 0 :: (List.range count).map fun v=>nx.getD (rep v) 0).Nodup:=by
   refine List.nodup_cons.2 ⟨fun hm=>?_,hnd⟩;obtain ⟨v,hv,e⟩:=List.mem_map.1 hm;have hv:=List.mem_range.1 hv;obtain ⟨r1,r2⟩:=hrep v hv
   have:=back _ _ r1 hi (by omega) h0 e
   have : (out.getD i 0).toNat = v:=by omega
   exact hne (by rw [this]; exact e.symm)
  have:=hnd2.length_le_of_subset (l₂:=(List.range m).map (fun (i : Nat)=>(i : Int))) (fun x hx=>by
   rcases List.mem_cons.1 hx with rfl | hx
   ·obtain ⟨a,b⟩:=k.pos i hi h0;exact List.mem_map.2 ⟨(nx.getD i 0).toNat,List.mem_range.2 (by omega),by omega⟩
   ·exact hsub x hx)
  simp at this;omega
 rw [one i hi h0 hlt,one j hj (by omega) (by omega),he]
theorem Pass.done {L : Nat} {s : Int} {next : List (List Int)} {fin : List Bool} {out nx : List Int} {m : Nat} (hs : Shape L s next fin) (h : Ref L next fin out m) (k : Pass L next out nx m) (ht : ∀ i,i < next.length → out.getD i 0 < m ∨ m = 0) : Cls L next fin nx m:=by
 have r:=k.ref hs h;have hcount:=(k.count h).2 rfl
 have stay : ∀ i j : Nat,i < next.length → j < next.length → 0 ≤ out.getD i 0 → out.getD i 0 = out.getD j 0 → nx.getD i 0 = nx.getD j 0:=fun i j hi hj h0 he=>by
  rcases ht i hi with h1 | h1
  ·exact hcount i j hi hj h0 he h1
  ·have:=k.pos i hi h0; omega
 have stay2 : ∀ x y : Int,-1 ≤ x → x < next.length → -1 ≤ y → y < next.length → dr out x = dr out y → dr nx x = dr nx y:=fun x y hx hx2 hy hy2 he=>by
  have neg : ∀ z : Int,-1 ≤ z → z < next.length → dr out z < 0 → dr nx z = -1:=fun z hz hz2 hn=>by
   by_cases hneg : z < 0
   ·exact eo hneg
   ·obtain ⟨q,rfl⟩:=Int.eq_ofNat_of_zero_le (Int.not_lt.1 hneg);rw [dh] at hn ⊢;exact k.neg q (by omega) hn
  by_cases hn : dr out x < 0
  ·rw [neg x hx hx2 hn,neg y hy hy2 (by omega)]
  ·have px : 0 ≤ x:=by
    refine Int.not_lt.1 fun h=>?_;rw [eo h] at hn; omega
   have py : 0 ≤ y:=by
    refine Int.not_lt.1 fun h=>?_;rw [he,eo h] at hn; omega
   obtain ⟨p,rfl⟩:=Int.eq_ofNat_of_zero_le px;obtain ⟨q,rfl⟩:=Int.eq_ofNat_of_zero_le py;rw [dh,dh] at *;exact stay p q (by omega) (by omega) (by omega) he
 have dead : ∀ (z : Int) (w : List Nat),-1 ≤ z → z < next.length → dr nx z < 0 → Word L w → accM next fin z w = false:=fun z w hz hz2 hn hw=>by
  by_cases hneg : z < 0
  ·exact di _ _ _ hneg
  ·obtain ⟨q,rfl⟩:=Int.eq_ofNat_of_zero_le (Int.not_lt.1 hneg);rw [dh] at hn;refine Bool.eq_false_iff.2 fun ha=>?_
   have:=(r.live q (by omega)).2 ⟨w,hw,ha⟩
   omega
 have bis : ∀ (w : List Nat) (x y : Int),Word L w → -1 ≤ x → x < next.length → -1 ≤ y → y < next.length → dr nx x = dr nx y → accM next fin x w = accM next fin y w:=by
  intro w
  induction w with
  | nil=>
    intro x y hw hx hx2 hy hy2 he
    by_cases hn : dr nx x < 0
    ·rw [dead x [] hx hx2 hn hw,dead y [] hy hy2 (by omega) hw]
    ·have px : 0 ≤ x:=by
      refine Int.not_lt.1 fun h=>?_;rw [eo h] at hn; omega
     have py : 0 ≤ y:=by
      refine Int.not_lt.1 fun h=>?_;rw [he,eo h] at hn; omega
     obtain ⟨p,rfl⟩:=Int.eq_ofNat_of_zero_le px;obtain ⟨q,rfl⟩:=Int.eq_ofNat_of_zero_le py;rw [dh,dh] at *
     have:=r.fin p q (by omega) (by omega) (by omega) he
     simpa [fu,fo] using this
  | cons c w ih=>
    intro x y hw hx hx2 hy hy2 he
    by_cases hn : dr nx x < 0
    ·rw [dead x _ hx hx2 hn hw,dead y _ hy hy2 (by omega) hw]
    ·have px : 0 ≤ x:=by
      refine Int.not_lt.1 fun h=>?_;rw [eo h] at hn; omega
     have py : 0 ≤ y:=by
      refine Int.not_lt.1 fun h=>?_;rw [he,eo h] at hn; omega
     obtain ⟨p,rfl⟩:=Int.eq_ofNat_of_zero_le px;obtain ⟨q,rfl⟩:=Int.eq_ofNat_of_zero_le py;rw [dh,dh] at *;have o1 : 0 ≤ out.getD p 0:=(k.sign (by omega)).1 (by omega);have o2 : 0 ≤ out.getD q 0:=(k.sign (by omega)).1 (by omega)
     have:=(ec.1 ((k.same p q (by omega) (by omega) o1 o2).1 he)).2 c hw.head
     have t1:=dm (L:=(L : Int)) hs p (by omega) (by omega) c (by simpa using hw.head);have t2:=dm (L:=(L : Int)) hs q (by omega) (by omega) c (by simpa using hw.head);rw [ef,ef,dv (by omega),dv (by omega)];exact ih _ _ hw.tail t1.1 t1.2 t2.1 t2.2 (stay2 _ _ t1.1 t1.2 t2.1 t2.2 this)
 refine ⟨k.len,r.low,r.live,fun i j hi hj h1 h2=>⟨fun he w hw=>?_,fun ha=>r.sep i j hi hj h1 h2 ha⟩,fun i hi=>?_,k.hit⟩
 ·exact bis w i j hw (by omega) (by omega) (by omega) (by omega) (by rw [dh,dh]; exact he)
 ·by_cases h0 : 0 ≤ out.getD i 0
  ·exact (k.pos i hi h0).2
  ·rw [k.neg i hi (by omega)]; omega
theorem afk {L : Nat} {next : List (List Int)} {fin out : List Bool} {cls : List Int} (hl : ∀ i : Nat,i < next.length → (out.getD i false = true ↔ Live L next fin i)) (hn : cls.length = next.length)
  (hc : ∀ i : Nat,i < next.length → cls.getD i 0 = if out.getD i false = true then (if fin.getD i false = true then 1 else 0) else -1) : Ref L next fin cls 0:=by
 refine ⟨hn,fun i hi=>?_,fun i hi=>?_,fun i j hi hj h1 h2 ha=>?_,fun i j hi hj h1 he=>?_,fun v hv=>by omega⟩
 ·rw [hc i hi]; split
  ·split <;> omega
  ·omega
 ·rw [hc i hi,← hl i hi]
  split
  ·rename_i h; rw [h]; split <;> simp
  ·rename_i h;exact ⟨fun h0=>by omega,fun h1=>(h h1).elim⟩
 ·rw [hc i hi] at h1 ⊢;rw [hc j hj] at h2 ⊢
  have:=ha [] (Word.nil _)
  simp only [fu,fo,Int.toNat_natCast] at this;have this : fin.getD i false = fin.getD j false:=by simpa using this
  rw [this]
  split at h1
  ·split at h2
   ·rename_i a b; rw [if_pos a,if_pos b]
   ·omega
  ·omega
 ·rw [hc i hi] at h1 he;rw [hc j hj] at he
  split at h1
  ·rename_i a;rw [if_pos a] at he
   by_cases b : out.getD j false = true
   ·rw [if_pos b] at he
    by_cases p : fin.getD i false = true
    ·by_cases q : fin.getD j false = true
     ·rw [p,q]
     ·rw [if_pos p,if_neg q] at he; omega
    ·by_cases q : fin.getD j false = true
     ·rw [if_neg p,if_pos q] at he; omega
     ·rw [Bool.eq_false_iff.2 p,Bool.eq_false_iff.2 q]
   ·rw [if_neg b] at he
    split at he <;> omega
  ·omega
structure SmallI (L : Nat) (next : List (List Int)) (fin : List Bool) (cls : List Int) (sn : List (List Int)) (sf : List Bool) : Prop where
 len : sf.length = sn.length
 row : ∀ v (h : v < sn.length),∃ i : Nat,i < next.length ∧ cls.getD i 0 = v ∧ sn[v] = (List.range L).map (fun c=>dr cls (tgtM next i c)) ∧ sf.getD v false = fin.getD i false
theorem ns {L : Nat} {s : Int} {next : List (List Int)} {fin : List Bool} {cls : List Int} {sn : List (List Int)} {sf : List Bool} (hs : Shape L s next fin) (hc : Cls L next fin cls sn.length) (hm : SmallI L next fin cls sn sf) :
  ∀ (w : List Nat) (x : Int),Word L w → -1 ≤ x → x < next.length → accM sn sf (dr cls x) w = accM next fin x w
 | w,x,hw,hx,hx2=>by
   by_cases hn : dr cls x < 0
   ·rw [di _ _ _ hn]
    by_cases hneg : x < 0
    ·rw [di _ _ _ hneg]
    ·obtain ⟨p,rfl⟩:=Int.eq_ofNat_of_zero_le (Int.not_lt.1 hneg);rw [dh] at hn;refine (Bool.eq_false_iff.2 fun ha=>?_).symm
     have:=(hc.live p (by omega)).2 ⟨w,hw,ha⟩
     omega
   ·have px : 0 ≤ x:=by
     refine Int.not_lt.1 fun h=>?_;rw [eo h] at hn; omega
    obtain ⟨p,rfl⟩:=Int.eq_ofNat_of_zero_le px;rw [dh] at hn ⊢;obtain ⟨v,hv⟩:=Int.eq_ofNat_of_zero_le (Int.not_lt.1 hn);have hvm : v < sn.length:=by have:=hc.top p (by omega); omega
    obtain ⟨i,i1,i2,i3,i4⟩:=hm.row v hvm;have hal:=(hc.same i p i1 (by omega) (by omega) (by omega)).1 (by omega);rw [hv]
    cases w with
    | nil=>
      rw [← hal [] hw];rw [fu,fu]
      simpa [fo] using i4
    | cons c w=>
      rw [← hal _ hw,ef,ef];have hcl : c < sn[v].length:=by rw [i3]; simpa using hw.head
      have hst : dd sn v c = dr cls (dd next i c):=by
       rw [i9 hvm hcl];simp only [i3,List.getElem_map,List.getElem_range];rw [dv (by omega)]
      rw [hst];have t1:=dm (L:=(L : Int)) hs i (by omega) (by omega) c (by simpa using hw.head);rw [dv (by omega)];exact ns hs hc hm w _ hw.tail t1.1 t1.2
 termination_by w=>w.length
theorem aig {L : Nat} {s : Int} {next : List (List Int)} {fin : List Bool} {cls : List Int} {sn : List (List Int)} {sf : List Bool} (hs : Shape L s next fin) (hc : Cls L next fin cls sn.length) (hm : SmallI L next fin cls sn sf) (h0 : 0 ≤ dr cls s) :
  Shape L (dr cls s) sn sf ∧ (∀ i : Nat,i < sn.length → Live L sn sf i) ∧ (∀ i j : Nat,i < sn.length → j < sn.length → dq L sn sf i sn sf j → i = j) ∧ dq L sn sf (dr cls s) next fin s:=by
 have hal : ∀ v,v < sn.length → ∃ i : Nat,i < next.length ∧ cls.getD i 0 = v ∧ dq L sn sf v next fin i:=fun v hv=>by
  obtain ⟨i,i1,i2,_,_⟩:=hm.row v hv;refine ⟨i,i1,i2,fun w hw=>?_⟩
  have:=ns hs hc hm w i hw (by omega) (by omega)
  rwa [dh,i2] at this
 refine ⟨⟨by omega,hm.len,by omega,?_,fun _=>h0,fun k hk=>?_⟩,fun v hv=>?_,fun u v hu hv ha=>?_,fun w hw=>ns hs hc hm w s hw hs.s1 hs.s2⟩
 ·have p : 0 ≤ s:=by
   refine Int.not_lt.1 fun h=>?_;rw [eo h] at h0; omega
  obtain ⟨q,rfl⟩:=Int.eq_ofNat_of_zero_le p;rw [dh];exact hc.top q (by have:=hs.s2; omega)
 ·obtain ⟨i,i1,i2,i3,i4⟩:=hm.row k hk;rw [i3];refine ⟨by simp,fun j hj=>?_⟩;have hj' : j < L:=by simpa using hj
  simp only [List.getElem_map,List.getElem_range];have t1:=dm (L:=(L : Int)) hs i (by omega) (by omega) j (by simpa using hj')
  by_cases hneg : tgtM next i j < 0
  ·rw [eo hneg]; omega
  ·obtain ⟨q,hq⟩:=Int.eq_ofNat_of_zero_le (Int.not_lt.1 hneg);rw [hq,dh];exact ⟨hc.low q (by omega),hc.top q (by omega)⟩
 ·obtain ⟨i,i1,i2,i3⟩:=hal v hv;exact i3.symm.live ((hc.live i i1).1 (by omega))
 ·obtain ⟨i,i1,i2,i3⟩:=hal u hu;obtain ⟨j,j1,j2,j3⟩:=hal v hv
  have:=(hc.same i j i1 j1 (by omega) (by omega)).2 ((i3.symm.trans ha).trans j3)
  omega
theorem adj {L s : Int} {next : List (List Int)} {fin : List Bool} (h0 : 0 ≤ L) (h : ¬ Live L.toNat next fin s) : Canon L (-1) [] [] ∧ dq L.toNat [] [] (-1) next fin s:=by
 refine ⟨⟨⟨h0,rfl,by decide,by decide,fun h=>by simp at h,fun k hk=>by simp at hk⟩,fun h=>by simp at h,fun i hi=>by simp at hi,fun i j hi=>by simp at hi,fun h=>by simp at h⟩,fun w hw=>?_⟩;rw [di _ _ _ (by decide)];exact (Bool.eq_false_iff.2 fun ha=>h ⟨w,hw,ha⟩).symm
end
section
def lh (K : Nat) (w : List Nat) : Nat:=w.foldl (fun x c=>x * K + (c + 1)) 0
theorem tf (K : Nat) : lh K [] = 0:=rfl
theorem jk (K : Nat) (w : List Nat) (c : Nat) : lh K (w ++ [c]) = lh K w * K + (c + 1):=by simp [lh]
theorem j8 (w : List Nat) : w = [] ∨ ∃ v c,w = v ++ [c]:=by
 rcases List.eq_nil_or_concat w with h | ⟨v,c,h⟩
 ·exact .inl h
 ·exact .inr ⟨v,c,by rw [h,List.concat_eq_append]⟩
theorem y8 {K : Nat} : ∀ (n : Nat) (u v : List Nat),u.length ≤ n → Word K u → Word K v → lh K u = lh K v → u = v
 | n,u,v,hn,hu,hv,h=>by
   rcases j8 u with rfl | ⟨u',a,rfl⟩
   ·rcases j8 v with rfl | ⟨v',b,rfl⟩
    ·rfl
    ·rw [tf,jk] at h; omega
   ·rcases j8 v with rfl | ⟨v',b,rfl⟩
    ·rw [tf,jk] at h; omega
    ·rw [jk,jk] at h;have ha : a < K:=hu.right a (by simp);have hb : b < K:=hv.right b (by simp)
     have h1 : lh K u' = lh K v':=by
      rcases Nat.lt_trichotomy (lh K u') (lh K v') with h2 | h2 | h2
      ·have:=Nat.mul_le_mul_right K (show lh K u' + 1 ≤ lh K v' from h2)
       rw [Nat.add_mul] at this; omega
      ·exact h2
      ·have:=Nat.mul_le_mul_right K (show lh K v' + 1 ≤ lh K u' from h2)
       rw [Nat.add_mul] at this; omega
     cases n with
     | zero=>simp at hn
     | succ n=>
       have:=y8 n u' v' (by simp at hn; omega) hu.left hv.left h1
       subst this;have : a = b:=by omega
       subst this; rfl
theorem ahf {K a b x y : Nat} (h : x < y) (ha : a < K) : x * K + (a + 1) < y * K + (b + 1):=by
 have:=Nat.mul_le_mul_right K (show x + 1 ≤ y from h)
 rw [Nat.add_mul] at this; omega
def atGo (p : Int × Int) : List (Int × Int) → Nat → Int
 | [],_=>-1
 | q :: r,i=>if q = p then (i : Int) else atGo p r (i + 1)
theorem acr {p : Int × Int} : ∀ (l : List (Int × Int)) (i : Nat),atGo p l i < 0 → p ∉ l
 | [],_,_=>by simp
 | q :: r,i,h=>by
   unfold atGo at h
   split at h
   ·omega
   ·rename_i hq;simp only [List.mem_cons,not_or];exact ⟨fun e=>hq e.symm,acr r (i + 1) h⟩
theorem acq {p : Int × Int} : ∀ (l : List (Int × Int)) (i : Nat),¬ atGo p l i < 0 → ∃ j : Nat,atGo p l i = ((i + j : Nat) : Int) ∧ l[j]? = some p
 | [],_,h=>by exact (h (by simp [atGo])).elim
 | q :: r,i,h=>by
   unfold atGo at h ⊢
   split at h
   ·rename_i hq;rw [if_pos hq];exact ⟨0,by simp,by simp [hq]⟩
   ·rename_i hq;rw [if_neg hq];obtain ⟨j,h1,h2⟩:=acq r (i + 1) h;exact ⟨j + 1,by rw [h1]; congr 1; omega,by simpa using h2⟩
def aao (both : Bool) (p q : Int) : Bool:=!both || (decide (0 ≤ p) && decide (0 ≤ q))
def np (n1 n2 : List (List Int)) (p : Int × Int) (c : Nat) : Int × Int:=(dd n1 p.1 c,dd n2 p.2 c)
def run2 (n1 n2 : List (List Int)) : Int × Int → List Nat → Int × Int
 | p,[]=>p
 | p,c :: w=>run2 n1 n2 (np n1 n2 p c) w
theorem wi (n1 n2 : List (List Int)) : ∀ (w : List Nat) (p : Int × Int),run2 n1 n2 p w = (runM n1 p.1 w,runM n2 p.2 w)
 | [],_=>rfl
 | c :: w,p=>by rw [run2,wi n1 n2 w]; rfl
theorem afc (n1 n2 : List (List Int)) (w : List Nat) (c : Nat) (p : Int × Int) : run2 n1 n2 p (w ++ [c]) = np n1 n2 (run2 n1 n2 p w) c:=by
 rw [wi,wi,d4,d4]; rfl
def ni (both : Bool) (p : Int × Int) : Prop:=aao both p.1 p.2 = false ∨ (p.1 < 0 ∧ p.2 < 0)
theorem agp {n1 n2 : List (List Int)} {both : Bool} {p : Int × Int} (h : ni both p) (c : Nat) : ni both (np n1 n2 p c):=by
 cases both with
 | false=>
   rcases h with h | h
   ·simp [aao] at h
   ·refine .inr ⟨?_,?_⟩
    ·simp only [np]; rw [i7 _ h.1]; decide
    ·simp only [np]; rw [i7 _ h.2]; decide
 | true=>
   have h' : p.1 < 0 ∨ p.2 < 0:=by
    rcases h with h | h
    ·simp [aao] at h; omega
    ·exact .inl h.1
   refine .inl ?_
   rcases h' with h | h
   ·simp [aao,np,i7 _ h]
   ·simp [aao,np,i7 _ h]
theorem mw {α : Type} {l : List α} {x d : α} {j : Nat} (h : j < l.length) : (l ++ [x]).getD j d = l.getD j d:=by
 simp [List.getD_eq_getElem?_getD,List.getElem?_append_left h]
theorem po {α : Type} (l : List α) (x d : α) : (l ++ [x]).getD l.length d = x:=by simp [List.getD_eq_getElem?_getD]
theorem d9 {α : Type} {l : List α} {j : Nat} {d : α} (h : j < l.length) : l.getD j d = l[j]:=by simp [List.getD_eq_getElem?_getD,h]
def ah1 (L : Nat) (s1 : Int) (n1 : List (List Int)) (f1 : List Bool) (s2 : Int) (n2 : List (List Int)) (f2 : List Bool) (word : List Nat) (first : Bool) (e : Int) : Prop:=
 (e = 0 ∧ Word L word ∧ accM n1 f1 s1 word ≠ accM n2 f2 s2 word ∧ first = accM n1 f1 s1 word ∧ ∀ u,Word L u → accM n1 f1 s1 u ≠ accM n2 f2 s2 u → lh L word ≤ lh L u) ∨
 (e = 7 ∧ word = [] ∧ first = false ∧ dq L n1 f1 s1 n2 f2 s2)
theorem ah1.one {L : Nat} {s1 : Int} {n1 : List (List Int)} {f1 : List Bool} {s2 : Int} {n2 : List (List Int)} {f2 : List Bool} {w w' : List Nat} {b b' : Bool} {e e' : Int} (h : ah1 L s1 n1 f1 s2 n2 f2 w b e) (k : ah1 L s1 n1 f1 s2 n2 f2 w' b' e') : w = w' ∧ b = b' ∧ e = e':=by
 rcases h with ⟨rfl,h1,h2,rfl,h4⟩ | ⟨rfl,rfl,rfl,h4⟩
 ·rcases k with ⟨rfl,k1,k2,rfl,k4⟩ | ⟨rfl,rfl,rfl,k4⟩
  ·have:=y8 w.length w w' (Nat.le_refl _) h1 k1 (Nat.le_antisymm (h4 w' k1 k2) (k4 w h1 h2))
   subst this;exact ⟨rfl,rfl,rfl⟩
  ·exact (h2 (k4 w h1)).elim
 ·rcases k with ⟨rfl,k1,k2,rfl,k4⟩ | ⟨rfl,rfl,rfl,k4⟩
  ·exact (k2 (h4 w' k1)).elim
  ·exact ⟨rfl,rfl,rfl⟩
end
section
def befP (p q : Int × Int) : Prop:=p.1 < q.1 ∨ (p.1 = q.1 ∧ p.2 < q.2)
theorem befP.trans {p q r : Int × Int} (h : befP p q) (k : befP q r) : befP p r:=by
 unfold befP at *;omega
theorem befP.irrefl {p : Int × Int} (h : befP p p) : False:=by
 unfold befP at h;omega
theorem befP.asymm {p q : Int × Int} (h : befP p q) (k : befP q p) : False:=(h.trans k).irrefl
theorem befP.tri {p q : Int × Int} (h : ¬ befP p q) (hne : p ≠ q) : befP q p:=by
 unfold befP at *;have : ¬ (p.1 = q.1 ∧ p.2 = q.2):=fun e=>hne (Prod.ext e.1 e.2);omega
theorem ur : ∀ {l k : List (Int × Int)},l.Pairwise befP → k.Pairwise befP → (∀ x,x ∈ l ↔ x ∈ k) → l = k
 | [],[],_,_,_=>rfl
 | [],y :: k,_,_,h=>by have:=(h y).2 (List.mem_cons_self ..); cases this
 | x :: l,[],_,_,h=>by have:=(h x).1 (List.mem_cons_self ..); cases this
 | x :: l,y :: k,hl,hk,h=>by
   obtain ⟨l1,l2⟩:=List.pairwise_cons.1 hl;obtain ⟨k1,k2⟩:=List.pairwise_cons.1 hk
   have e : x = y:=by
    rcases List.mem_cons.1 ((h x).1 (List.mem_cons_self ..)) with e | e
    ·exact e
    ·rcases List.mem_cons.1 ((h y).2 (List.mem_cons_self ..)) with e2 | e2
     ·exact e2.symm
     ·exact ((k1 x e).asymm (l1 y e2)).elim
   subst e
   congr 1
   refine ur l2 k2 fun z=>⟨fun hz=>?_,fun hz=>?_⟩
   ·rcases List.mem_cons.1 ((h z).1 (List.mem_cons_of_mem _ hz)) with e | e
    ·exact ((e ▸ l1 z hz : befP x x)).irrefl.elim
    ·exact e
   ·rcases List.mem_cons.1 ((h z).2 (List.mem_cons_of_mem _ hz)) with e | e
    ·exact ((e ▸ k1 z hz : befP x x)).irrefl.elim
    ·exact e
structure RelI (L : Nat) (n1 n2 : List (List Int)) (p0 : Int × Int) (l : List (Int × Int)) : Prop where
 sorted : l.Pairwise befP
 mem : ∀ p,p ∈ l ↔ ¬ ni false p ∧ ∃ u,Word L u ∧ run2 n1 n2 p0 u = p
theorem RelI.one {L : Nat} {n1 n2 : List (List Int)} {p0 : Int × Int} {l k : List (Int × Int)} (h : RelI L n1 n2 p0 l) (h2 : RelI L n1 n2 p0 k) : l = k:=
 ur h.sorted h2.sorted fun p=>(h.mem p).trans (h2.mem p).symm
end
section
def ga : List Bool → Nat
 | []=>0
 | b :: r=>(if b = true then 0 else 1) + ga r
theorem qm : ∀ {l : List Bool} {i : Nat},i < l.length → l.getD i false = false → ga (l.set i true) + 1 = ga l
 | b :: r,0,_,h=>by
   have hb : b = false:=by simpa using h
   subst hb;simp [ga];omega
 | b :: r,i + 1,hi,h=>by
   have:=qm (l:=r) (i:=i) (by simpa using hi) (by simpa using h)
   simp only [List.set_cons_succ,ga];omega
theorem tv {next : List (List Int)} {out : List Int} {L : Nat} (a : Nat) : gx next out a a L = true:=ec.2 ⟨rfl,fun _ _=>rfl⟩
theorem og {next : List (List Int)} {out : List Int} {L a b : Nat} (h : gx next out a b L = true) : gx next out b a L = true:=
 ec.2 ⟨(ec.1 h).1.symm,fun c hc=>((ec.1 h).2 c hc).symm⟩
theorem l8 {next : List (List Int)} {out : List Int} {L a b c : Nat} (h : gx next out a b L = true) (k : gx next out b c L = true) : gx next out a c L = true:=
 ec.2 ⟨(ec.1 h).1.trans (ec.1 k).1,fun x hx=>((ec.1 h).2 x hx).trans ((ec.1 k).2 x hx)⟩
structure PassI (L : Nat) (next : List (List Int)) (out : List Int) (i : Nat) (nx fs : List Int) : Prop where
 len : nx.length = next.length
 fst : ∀ k,k < fs.length → ∃ f : Nat,fs.getD k 0 = f ∧ f < i ∧ 0 ≤ out.getD f 0 ∧ nx.getD f 0 = k
 neg : ∀ j,j < i → out.getD j 0 < 0 → nx.getD j 0 = -1
 pos : ∀ j,j < i → 0 ≤ out.getD j 0 → ∃ k : Nat,nx.getD j 0 = k ∧ k < fs.length ∧ gx next out j (fs.getD k 0).toNat L = true
 dist : ∀ k k' : Nat,k < fs.length → k' < fs.length → gx next out (fs.getD k 0).toNat (fs.getD k' 0).toNat L = true → k = k'
theorem PassI.start {L : Nat} {next : List (List Int)} {out nx : List Int} (h : nx.length = next.length) : PassI L next out 0 nx []:=
 ⟨h,fun k hk=>by simp at hk,fun j hj=>by omega,fun j hj=>by omega,fun k k' hk=>by simp at hk⟩
theorem PassI.cap {L : Nat} {next : List (List Int)} {out nx fs : List Int} {i : Nat} (h : PassI L next out i nx fs) (hi : i ≤ next.length) : fs.length ≤ i:=by
 have hnd : fs.Nodup:=by
  refine List.pairwise_iff_getElem.2 fun a b ha hb hab he=>?_
  have:=h.dist a b ha hb (by rw [d9 ha,d9 hb,he]; exact tv _)
  omega
 have:=hnd.length_le_of_subset (l₂:=(List.range i).map (fun (n : Nat)=>(n : Int))) (fun x hx=>by
  obtain ⟨k,hk,rfl⟩:=List.mem_iff_getElem.1 hx;obtain ⟨f,h1,h2,_⟩:=h.fst k hk;rw [d9 hk] at h1;exact List.mem_map.2 ⟨f,List.mem_range.2 h2,h1.symm⟩)
 simpa using this
theorem PassI.dead {L : Nat} {next : List (List Int)} {out nx fs : List Int} {i : Nat} (h : PassI L next out i nx fs) (hi : i < next.length) (ho : out.getD i 0 < 0) : PassI L next out (i + 1) (nx.set i (-1)) fs:=by
 have hne : ∀ j,j < i → (nx.set i (-1)).getD j 0 = nx.getD j 0:=fun j hj=>by rw [dp,if_neg (by omega)]
 refine ⟨by simp [h.len],fun k hk=>?_,fun j hj hn=>?_,fun j hj hp=>?_,h.dist⟩
 ·obtain ⟨f,a,b,c,d⟩:=h.fst k hk;exact ⟨f,a,by omega,c,by rw [hne f b]; exact d⟩
 ·rcases Nat.lt_or_ge j i with hlt | hge
  ·rw [hne j hlt]; exact h.neg j hlt hn
  ·obtain rfl : j = i:=by omega
   rw [dp,if_pos ⟨rfl,by rw [h.len]; exact hi⟩]
 ·rcases Nat.lt_or_ge j i with hlt | hge
  ·rw [hne j hlt]; exact h.pos j hlt hp
  ·obtain rfl : j = i:=by omega
   omega
theorem PassI.like {L : Nat} {next : List (List Int)} {out nx fs : List Int} {i k : Nat} (h : PassI L next out i nx fs) (hi : i < next.length) (ho : 0 ≤ out.getD i 0) (hk : k < fs.length) (ha : gx next out i (fs.getD k 0).toNat L = true) : PassI L next out (i + 1) (nx.set i k) fs:=by
 have hne : ∀ j,j < i → (nx.set i (k : Int)).getD j 0 = nx.getD j 0:=fun j hj=>by rw [dp,if_neg (by omega)]
 refine ⟨by simp [h.len],fun k hk=>?_,fun j hj hn=>?_,fun j hj hp=>?_,h.dist⟩
 ·obtain ⟨f,a,b,c,d⟩:=h.fst k hk;exact ⟨f,a,by omega,c,by rw [hne f b]; exact d⟩
 ·rcases Nat.lt_or_ge j i with hlt | hge
  ·rw [hne j hlt]; exact h.neg j hlt hn
  ·obtain rfl : j = i:=by omega
   omega
 ·rcases Nat.lt_or_ge j i with hlt | hge
  ·rw [hne j hlt]; exact h.pos j hlt hp
  ·obtain rfl : j = i:=by omega
   rw [dp,if_pos ⟨rfl,by rw [h.len]; exact hi⟩];exact ⟨k,rfl,hk,ha⟩
theorem PassI.new {L : Nat} {next : List (List Int)} {out nx fs : List Int} {i : Nat} (h : PassI L next out i nx fs) (hi : i < next.length) (ho : 0 ≤ out.getD i 0) (ha : ∀ k,k < fs.length → gx next out i (fs.getD k 0).toNat L = false) : PassI L next out (i + 1) (nx.set i fs.length) (fs ++ [(i : Int)]):=by
 have hne : ∀ j,j < i → (nx.set i (fs.length : Int)).getD j 0 = nx.getD j 0:=fun j hj=>by rw [dp,if_neg (by omega)]
 have hself : (nx.set i (fs.length : Int)).getD i 0 = fs.length:=by rw [dp,if_pos ⟨rfl,by rw [h.len]; exact hi⟩]
 refine ⟨by simp [h.len],fun k hk=>?_,fun j hj hn=>?_,fun j hj hp=>?_,fun k k' hk hk' he=>?_⟩
 ·rcases Nat.lt_or_ge k fs.length with hlt | hge
  ·obtain ⟨f,a,b,c,d⟩:=h.fst k hlt;exact ⟨f,by rw [mw hlt]; exact a,by omega,c,by rw [hne f b]; exact d⟩
  ·obtain rfl : k = fs.length:=by simp at hk; omega
   exact ⟨i,by rw [po],by omega,ho,hself⟩
 ·rcases Nat.lt_or_ge j i with hlt | hge
  ·rw [hne j hlt]; exact h.neg j hlt hn
  ·obtain rfl : j = i:=by omega
   omega
 ·rcases Nat.lt_or_ge j i with hlt | hge
  ·obtain ⟨k,a,b,c⟩:=h.pos j hlt hp;exact ⟨k,by rw [hne j hlt]; exact a,by simp; omega,by rw [mw b]; exact c⟩
  ·obtain rfl : j = i:=by omega
   exact ⟨fs.length,hself,by simp,by rw [po,Int.toNat_natCast]; exact tv _⟩
 ·rcases Nat.lt_or_ge k fs.length with hlt | hge
  ·rcases Nat.lt_or_ge k' fs.length with hlt' | hge'
   ·rw [mw hlt,mw hlt'] at he; exact h.dist k k' hlt hlt' he
   ·obtain rfl : k' = fs.length:=by simp at hk'; omega
    rw [mw hlt,po,Int.toNat_natCast] at he
    have:=og he
    rw [ha k hlt] at this
    cases this
  ·obtain rfl : k = fs.length:=by simp at hk; omega
   rcases Nat.lt_or_ge k' fs.length with hlt' | hge'
   ·rw [mw hlt',po,Int.toNat_natCast,ha k' hlt'] at he
    cases he
   ·simp at hk'; omega
theorem PassI.done {L : Nat} {next : List (List Int)} {out nx fs : List Int} (h : PassI L next out next.length nx fs) : Pass L next out nx fs.length:=by
 refine ⟨h.len,fun i hi hn=>h.neg i hi hn,fun i hi hp=>?_,fun i j hi hj h1 h2=>?_,fun v hv=>?_⟩
 ·obtain ⟨k,a,b,_⟩:=h.pos i hi hp;omega
 ·obtain ⟨k,a1,b1,c1⟩:=h.pos i hi h1;obtain ⟨l,a2,b2,c2⟩:=h.pos j hj h2
  constructor
  ·intro he;have : k = l:=by omega
   subst this;exact l8 c1 (og c2)
  ·intro he
   have:=h.dist k l b1 b2 (l8 (og c1) (l8 he c2))
   rw [a1,a2,this]
 ·obtain ⟨f,a,b,c,d⟩:=h.fst v hv;exact ⟨f,b,d⟩
end
section
def twoM (L1 s1 : Int) (n1 : List (List Int)) (f1 : List Bool) (L2 s2 : Int) (n2 : List (List Int)) (f2 : List Bool) : Int:=
 if de L1 s1 n1 f1 ≠ 0 then 1 else if de L2 s2 n2 f2 ≠ 0 then 1 else if L1 ≠ L2 then 4 else 0
theorem wa {L1 s1 L2 s2 : Int} {n1 n2 : List (List Int)} {f1 f2 : List Bool} (h : twoM L1 s1 n1 f1 L2 s2 n2 f2 = 0) : de L1 s1 n1 f1 = 0 ∧ de L2 s2 n2 f2 = 0 ∧ L1 = L2:=by
 unfold twoM at h
 split at h
 ·cases h
 ·split at h
  ·cases h
  ·split at h
   ·cases h
   ·rename_i a b c;exact ⟨Decidable.not_not.1 a,Decidable.not_not.1 b,Decidable.not_not.1 c⟩
def zl (L s : Int) (next : List (List Int)) (fin : List Bool) (L' s' : Int) (n' : List (List Int)) (f' : List Bool) (r : Int) : Prop:=
 (de L s next fin ≠ 0 ∧ r = 1 ∧ L' = 0 ∧ s' = 0 ∧ n' = [] ∧ f' = []) ∨
 (de L s next fin = 0 ∧ r = 0 ∧ L' = L ∧ Canon L s' n' f' ∧ dq L.toNat n' f' s' next fin s)
theorem zl.one {L s : Int} {next : List (List Int)} {fin : List Bool} {L1 s1 r1 L2 s2 r2 : Int} {n1 n2 : List (List Int)} {f1 f2 : List Bool} (h : zl L s next fin L1 s1 n1 f1 r1) (k : zl L s next fin L2 s2 n2 f2 r2) : L1 = L2 ∧ s1 = s2 ∧ n1 = n2 ∧ f1 = f2 ∧ r1 = r2:=by
 rcases h with ⟨h0,rfl,rfl,rfl,rfl,rfl⟩ | ⟨h0,rfl,rfl,h1,h2⟩
 ·rcases k with ⟨_,rfl,rfl,rfl,rfl,rfl⟩ | ⟨k0,_⟩
  ·exact ⟨rfl,rfl,rfl,rfl,rfl⟩
  ·exact (h0 k0).elim
 ·rcases k with ⟨k0,_⟩ | ⟨_,rfl,rfl,k1,k2⟩
  ·exact (k0 h0).elim
  ·obtain ⟨a,b,c⟩:=tg h1 k1 (h2.trans k2.symm);exact ⟨rfl,a,b,c,rfl⟩
def aeh (L1 s1 : Int) (n1 : List (List Int)) (f1 : List Bool) (L2 s2 : Int) (n2 : List (List Int)) (f2 : List Bool) (word : List Nat) (b : Bool) (r : Int) : Prop:=
 (twoM L1 s1 n1 f1 L2 s2 n2 f2 ≠ 0 ∧ r = twoM L1 s1 n1 f1 L2 s2 n2 f2 ∧ word = [] ∧ b = false) ∨
 (twoM L1 s1 n1 f1 L2 s2 n2 f2 = 0 ∧ ah1 L1.toNat s1 n1 f1 s2 n2 f2 word b r)
theorem aeh.one {L1 s1 L2 s2 : Int} {n1 n2 : List (List Int)} {f1 f2 : List Bool} {w w' : List Nat} {b b' : Bool} {r r' : Int} (h : aeh L1 s1 n1 f1 L2 s2 n2 f2 w b r) (k : aeh L1 s1 n1 f1 L2 s2 n2 f2 w' b' r') : w = w' ∧ b = b' ∧ r = r':=by
 rcases h with ⟨h0,rfl,rfl,rfl⟩ | ⟨h0,h1⟩
 ·rcases k with ⟨_,rfl,rfl,rfl⟩ | ⟨k0,_⟩
  ·exact ⟨rfl,rfl,rfl⟩
  ·exact (h0 k0).elim
 ·rcases k with ⟨k0,_⟩ | ⟨_,k1⟩
  ·exact (k0 h0).elim
  ·exact h1.one k1
def RelE (L1 s1 : Int) (n1 : List (List Int)) (f1 : List Bool) (L2 s2 : Int) (n2 : List (List Int)) (f2 : List Bool) (l : List (Int × Int)) (r : Int) : Prop:=
 (twoM L1 s1 n1 f1 L2 s2 n2 f2 ≠ 0 ∧ r = twoM L1 s1 n1 f1 L2 s2 n2 f2 ∧ l = []) ∨
 (twoM L1 s1 n1 f1 L2 s2 n2 f2 = 0 ∧ ¬ dq L1.toNat n1 f1 s1 n2 f2 s2 ∧ r = 8 ∧ l = []) ∨
 (twoM L1 s1 n1 f1 L2 s2 n2 f2 = 0 ∧ dq L1.toNat n1 f1 s1 n2 f2 s2 ∧ r = 0 ∧ RelI L1.toNat n1 n2 (s1,s2) l)
theorem RelE.one {L1 s1 L2 s2 : Int} {n1 n2 : List (List Int)} {f1 f2 : List Bool} {l l' : List (Int × Int)} {r r' : Int} (h : RelE L1 s1 n1 f1 L2 s2 n2 f2 l r) (k : RelE L1 s1 n1 f1 L2 s2 n2 f2 l' r') : l = l' ∧ r = r':=by
 rcases h with ⟨h0,rfl,rfl⟩ | ⟨h0,h1,rfl,rfl⟩ | ⟨h0,h1,rfl,h2⟩
 ·rcases k with ⟨_,rfl,rfl⟩ | ⟨k0,_⟩ | ⟨k0,_⟩
  ·exact ⟨rfl,rfl⟩
  ·exact (h0 k0).elim
  ·exact (h0 k0).elim
 ·rcases k with ⟨k0,_⟩ | ⟨_,_,rfl,rfl⟩ | ⟨_,k1,_⟩
  ·exact (k0 h0).elim
  ·exact ⟨rfl,rfl⟩
  ·exact (h1 k1).elim
 ·rcases k with ⟨k0,_⟩ | ⟨_,k1,_⟩ | ⟨_,_,rfl,k2⟩
  ·exact (k0 h0).elim
  ·exact (k1 h1).elim
  ·exact ⟨h2.one k2,rfl⟩
def cntM (next : List (List Int)) (fin : List Bool) (L : Nat) : Nat → Int → Nat
 | 0,st=>if fo fin st = true then 1 else 0
 | k + 1,st=>((List.range L).map fun (c : Nat)=>cntM next fin L k (dd next st c)).sum
def td (L s : Int) (next : List (List Int)) (fin : List Bool) (len : Int) : Int × Int:=
 if de L s next fin ≠ 0 ∨ len < 0 ∨ 1000 < len then (0,1) else (((cntM next fin L.toNat len.toNat s % 18446744073709551616 : Nat) : Int),0)
def ahq (a b c d : Int) : Bool:=decide (a < c) || (decide (a = c) && decide (b < d))
def badP (n1 n2 : Int) (k : Nat) (c d a b : Int) : Bool:=
 decide (a < -1) || (decide (n1 ≤ a) || (decide (b < -1) || (decide (n2 ≤ b) || ((decide (a < 0) && decide (b < 0)) || (decide (0 < (k : Int)) && !ahq c d a b)))))
def badM (n1 n2 : Int) (l : List (Int × Int)) (k : Nat) : Bool:=badP n1 n2 k (l.getD (k - 1) (0,0)).1 (l.getD (k - 1) (0,0)).2 (l.getD k (0,0)).1 (l.getD k (0,0)).2
def ij (p q : Int) (l : List (Int × Int)) : Bool:=(decide (p < 0) && decide (q < 0)) || decide (0 ≤ atGo (p,q) l 0)
def km (n1 n2 : List (List Int)) (f1 f2 : List Bool) (L : Int) (l : List (Int × Int)) (p : Int × Int) : Bool:=
 (fo f1 p.1 != fo f2 p.2) || (List.range L.toNat).any (fun (c : Nat)=>!ij (dd n1 p.1 c) (dd n2 p.2 c) l)
def vz (L1 s1 : Int) (n1 : List (List Int)) (f1 : List Bool) (L2 s2 : Int) (n2 : List (List Int)) (f2 : List Bool) (l : List (Int × Int)) : Int:=
 if twoM L1 s1 n1 f1 L2 s2 n2 f2 ≠ 0 then twoM L1 s1 n1 f1 L2 s2 n2 f2
 else if (List.range l.length).any (badM n1.length n2.length l) = true then 2
 else if ij s1 s2 l = false then 8 else if l.any (km n1 n2 f1 f2 L1 l) = true then 8 else 0
def fm : List (List Int):=[[1],[2],[1]]
def g8 : List Bool:=[true,false,true]
def twoN : List (List Int):=[[1],[0]]
def twoF : List Bool:=[true,false]
def allN : List (List Int):=[[0]]
def allF : List Bool:=[true]
theorem adu : de 1 0 fm g8 = 0:=by decide
theorem aer : de 1 0 twoN twoF = 0:=by decide
theorem word1 {w : List Nat} (h : Word 1 w) : w = List.replicate w.length 0:=List.eq_replicate_iff.2 ⟨rfl,fun c hc=>by have:=h c hc; omega⟩
def agw (p q : Int) : Bool:=(decide (p = 0) && decide (q = 0)) || ((decide (p = 1) && decide (q = 1)) || (decide (p = 2) && decide (q = 0)))
theorem k8 {p q : Int} (h : agw p q = true) : (p = 0 ∧ q = 0) ∨ (p = 1 ∧ q = 1) ∨ (p = 2 ∧ q = 0):=by
 simp only [agw,Bool.or_eq_true,Bool.and_eq_true,decide_eq_true_eq] at h;exact h
theorem qn : ∀ (w : List Nat) (p q : Int),agw p q = true → Word 1 w → accM fm g8 p w = accM twoN twoF q w
 | [],p,q,h,_=>by rcases k8 h with ⟨rfl,rfl⟩ | ⟨rfl,rfl⟩ | ⟨rfl,rfl⟩ <;> rfl
 | c :: w,p,q,h,hw=>by
   have hc : c = 0:=by have:=hw.head; omega
   subst hc;rw [ef,ef];refine qn w _ _ ?_ hw.tail
   rcases k8 h with ⟨rfl,rfl⟩ | ⟨rfl,rfl⟩ | ⟨rfl,rfl⟩ <;> rfl
theorem aes : Canon 1 0 twoN twoF:=by
 refine ⟨(db aer).1,fun _=>rfl,fun i hi=>?_,fun i j hi hj h=>?_,fun _=>rfl⟩
 ·match i,hi with
  | 0,_=>exact ⟨[],Word.nil _,rfl⟩
  | 1,_=>exact ⟨[0],Word.cons (by decide) (Word.nil _),rfl⟩
  | i + 2,hi=>simp [twoN] at hi; omega
 ·have:=h [] (Word.nil _)
  match i,j,hi,hj with
  | 0,0,_,_=>rfl
  | 0,1,_,_=>exact absurd this (by decide)
  | 1,0,_,_=>exact absurd this (by decide)
  | 1,1,_,_=>rfl
  | i + 2,_,hi,_=>simp [twoN] at hi; omega
  | 0,j + 2,_,hj=>simp [twoN] at hj; omega
  | 1,j + 2,_,hj=>simp [twoN] at hj; omega
theorem adv {L' s' r : Int} {n' : List (List Int)} {f' : List Bool} (h : zl 1 0 fm g8 L' s' n' f' r) : L' = 1 ∧ s' = 0 ∧ n' = twoN ∧ f' = twoF ∧ r = 0:=
 h.one (.inr ⟨adu,rfl,rfl,aes,fun w hw=>(qn w 0 0 rfl hw).symm⟩)
theorem aa3 {w : List Nat} {b : Bool} {r : Int} (h : aeh 1 0 fm g8 1 0 allN allF w b r) : w = [0] ∧ b = false ∧ r = 0:=by
 refine h.one (.inr ⟨by decide,.inl ⟨rfl,Word.cons (by decide) (Word.nil _),by decide,rfl,fun u hu hne=>?_⟩⟩)
 cases u with
 | nil=>exact absurd rfl hne
 | cons c u=>
   have hc : c = 0:=by have:=hu.head; omega
   subst hc
   have : ∀ (v : List Nat) (x : Nat),1 ≤ x → 1 ≤ v.foldl (fun x c=>x * 1 + (c + 1)) x:=by
    intro v
    induction v with
    | nil=>intro x hx; exact hx
    | cons d v ih=>intro x hx; exact ih (x * 1 + (d + 1)) (by omega)
   exact this u 1 (Nat.le_refl _)
def jh : List (Int × Int):=[(0,0),(1,1),(2,0)]
theorem yv : ∀ (w : List Nat) (p q : Int),agw p q = true → Word 1 w → agw (runM fm p w) (runM twoN q w) = true
 | [],_,_,h,_=>h
 | c :: w,p,q,h,hw=>by
   have hc : c = 0:=by have:=hw.head; omega
   subst hc;unfold runM;refine yv w _ _ ?_ hw.tail
   rcases k8 h with ⟨rfl,rfl⟩ | ⟨rfl,rfl⟩ | ⟨rfl,rfl⟩ <;> rfl
theorem ajg : RelI 1 fm twoN (0,0) jh:=by
 refine ⟨by simp [jh,befP],fun p=>⟨fun hp=>?_,fun ⟨_,u,hu,e⟩=>?_⟩⟩
 ·have hg : ∀ p ∈ jh,¬ ni false p:=fun p hp=>by
   simp only [jh,List.mem_cons,List.not_mem_nil,or_false] at hp
   rcases hp with rfl | rfl | rfl <;> simp [ni,aao]
  refine ⟨hg p hp,?_⟩;simp only [jh,List.mem_cons,List.not_mem_nil,or_false] at hp
  rcases hp with rfl | rfl | rfl
  ·exact ⟨[],Word.nil _,rfl⟩
  ·exact ⟨[0],Word.cons (by decide) (Word.nil _),rfl⟩
  ·exact ⟨[0,0],Word.cons (by decide) (Word.cons (by decide) (Word.nil _)),rfl⟩
 ·rw [wi] at e
  have:=yv u 0 0 rfl hu
  subst e
  rcases k8 this with ⟨h1,h2⟩ | ⟨h1,h2⟩ | ⟨h1,h2⟩ <;> simp only [jh,h1,h2] <;> decide
theorem aa2 {l : List (Int × Int)} {r : Int} (h : RelE 1 0 fm g8 1 0 twoN twoF l r) : l = jh ∧ r = 0:=
 h.one (.inr (.inr ⟨by decide,fun w hw=>qn w 0 0 rfl hw,rfl,ajg⟩))
theorem adw : td 1 0 fm g8 4 = (1,0):=by decide
theorem pq : fq 1 0 fm g8 [0,0] = true:=by decide
theorem jg : fq 1 0 fm g8 [0] = false:=by decide
theorem kz : vz 1 0 fm g8 1 0 twoN twoF jh = 0:=by decide
theorem k7 : vz 1 0 fm g8 1 0 twoN twoF (jh.take 2) = 8:=by decide
end
section
def inB (L : Int) (w : List Int) : Bool:=w.all fun x=>decide (0 ≤ x) && decide (x < L)
theorem aaw (L : Int) (next : List (List Int)) (fin : List Bool) : ∀ (w : List Int) (st : Int),goM L next fin st w = (inB L w && accM next fin st (w.map Int.toNat))
 | [],st=>by simp [goM,inB,fu]
 | x :: r,st=>by
   unfold goM
   by_cases h0 : 0 ≤ st
   ·rw [decide_eq_true h0]
    by_cases hx : x < 0 ∨ L ≤ x
    ·have h1 : (decide (x < 0) || decide (L ≤ x)) = true:=by simpa using hx
     have h2 : inB L (x :: r) = false:=by
      have : (decide (0 ≤ x) && decide (x < L)) = false:=by simp; omega
      rw [inB,List.all_cons,this,Bool.false_and]
     simp only [h1,h2,Bool.false_and]
    ·have h1 : (decide (x < 0) || decide (L ≤ x)) = false:=by simp; omega
     have h2 : inB L (x :: r) = inB L r:=by
      have : (decide (0 ≤ x) && decide (x < L)) = true:=by simp; omega
      rw [inB,List.all_cons,this,Bool.true_and]; rfl
     simp only [h1,h2];rw [aaw L next fin r,List.map_cons,ef,show ((x.toNat : Nat) : Int) = x from Int.toNat_of_nonneg (by omega)]
   ·rw [decide_eq_false h0,List.map_cons,di _ _ _ (by omega),Bool.and_false];simp only [fo,decide_eq_false h0,Bool.false_and]
theorem ai6 {L : Int} (h : 0 ≤ L) {w : List Int} (hw : inB L w = true) : Word L.toNat (w.map Int.toNat):=fun c hc=>by
 obtain ⟨x,hx,rfl⟩:=List.mem_map.1 hc
 have:=List.all_eq_true.1 hw x hx
 simp only [Bool.and_eq_true,decide_eq_true_eq] at this;omega
theorem aet {p q : Int} {l : List (Int × Int)} : ij p q l = true → (p < 0 ∧ q < 0) ∨ (p,q) ∈ l:=fun h=>by
 rw [ij,Bool.or_eq_true,Bool.and_eq_true,decide_eq_true_eq,decide_eq_true_eq,decide_eq_true_eq] at h
 rcases h with h | h
 ·exact .inl h
 ·obtain ⟨j,_,hj⟩:=acq (p:=(p,q)) l 0 (by omega);exact .inr (List.mem_iff_getElem?.2 ⟨j,hj⟩)
end
section
theorem j9 {L s0 : Int} {next : List (List Int)} {fin : List Bool} (h : Shape L s0 next fin) : ∀ (w : List Nat) (st : Int),Word L.toNat w → -1 ≤ st → st < next.length → -1 ≤ runM next st w ∧ runM next st w < next.length
 | [],_,_,h1,h2=>⟨h1,h2⟩
 | c :: w,st,hw,h1,h2=>by
   have:=e8 h h2 (l:=c) (by omega) (by have:=hw.head; have:=h.L0; omega)
   unfold runM;exact j9 h w _ hw.tail this.1 this.2
theorem ab8 (p : Nat → Bool) : ∀ n : Nat,(∀ j,j < n → p j = false) ∨ ∃ i,i < n ∧ p i = true ∧ ∀ j,j < i → p j = false
 | 0=>.inl fun j hj=>by omega
 | n + 1=>by
   rcases ab8 p n with h | ⟨i,h1,h2,h3⟩
   ·cases hp : p n with
    | true=>exact .inr ⟨n,Nat.lt_succ_self _,hp,h⟩
    | false=>
      refine .inl fun j hj=>?_
      rcases Nat.lt_or_ge j n with h1 | h1
      ·exact h j h1
      ·obtain rfl : j = n:=by omega
       exact hp
   ·exact .inr ⟨i,by omega,h2,h3⟩
theorem zj {L s : Int} {next : List (List Int)} {fin : List Bool} (hv : de L s next fin = 0) {word : List Nat} (hw : Word L.toNat word) : fq L s next fin (word.map Int.ofNat) = accM next fin s word:=by
 have e1 : decide (de L s next fin ≠ 0) = false:=by simp [hv]
 have e2 : inB L (word.map Int.ofNat) = true:=by
  refine List.all_eq_true.2 fun x hx=>?_;obtain ⟨c,hc,rfl⟩:=List.mem_map.1 hx
  have:=hw c hc
  simp only [Bool.and_eq_true,decide_eq_true_eq];exact ⟨Int.natCast_nonneg _,by show (c : Int) < L; omega⟩
 have e3 : (word.map Int.ofNat).map Int.toNat = word:=by
  rw [List.map_map];have : (Int.toNat ∘ Int.ofNat) = id:=by funext c; rfl
  rw [this,List.map_id]
 simp only [fq,e1,aaw,e2,Bool.true_and,e3]
theorem y7 {K : Nat} : ∀ (n : Nat) (u v : List Nat),v.length ≤ n → Word K u → Word K v → u.length < v.length → lh K u < lh K v
 | n,u,v,hn,hu,hv,hl=>by
   rcases j8 v with rfl | ⟨v',b,rfl⟩
   ·simp at hl
   ·rw [jk]
    rcases j8 u with rfl | ⟨u',a,rfl⟩
    ·rw [tf]; omega
    ·rw [jk]
     cases n with
     | zero=>simp at hn
     | succ n=>exact ahf (y7 n u' v' (by simp at hn; omega) hu.left hv.left (by simp at hl; omega)) (hu.right a (by simp))
theorem abp {p q : Int} {l : List (Int × Int)} (h : (p < 0 ∧ q < 0) ∨ (p,q) ∈ l) : ij p q l = true:=by
 rw [ij,Bool.or_eq_true,Bool.and_eq_true,decide_eq_true_eq,decide_eq_true_eq,decide_eq_true_eq]
 rcases h with h | h
 ·exact .inl h
 ·exact .inr (Int.not_lt.1 fun hn=>acr _ _ hn h)
end
section
open Go Sym
def Sl (w : World) (v : Value) {α : Type} (l : List α) (P : World → Value → α → Prop) : Prop:=
 ∃ a b o cap,v = .slice a l.length cap ∧ (0 < l.length → a = some ⟨b,o,none⟩) ∧ l.length ≤ cap ∧ cap ≤ 9223372036854775807 ∧ ∀ i (h : i < l.length),∃ x,w.cell? ⟨b,o + i,none⟩ = some x ∧ P w x l[i]
def I64 (n : Int) : Prop:=-9223372036854775808 ≤ n ∧ n ≤ 9223372036854775807
def PInt (_ : World) (v : Value) (n : Int) : Prop:=v = Vi n ∧ I64 n
def je (_ : World) (v : Value) (n : Bool) : Prop:=v = .bool n
def Ok (v : Value) : Prop:=(v = .slice none 0 0 ∨ ∃ ad c,v = .slice (some ad) 0 c) ∨ ∃ b o n c,v = .slice (some ⟨b,o,none⟩) n c
def PRow (w : World) (v : Value) (l : List Int) : Prop:=Sl w v l PInt ∧ Ok v
theorem keep {w w' : World} (h : RowKit.Below w.heap.size w w') {x : Addr} {u : Value} (hx : w.cell? x = some u) : w'.cell? x = some u:=qt h x u hx
theorem Sl.keep {w w' : World} (hb : RowKit.Below w.heap.size w w') {v : Value} {α : Type} {l : List α} {P : World → Value → α → Prop} (hP : ∀ x y,P w x y → P w' x y) (h : Sl w v l P) : Sl w' v l P:=by
 obtain ⟨a,b,o,cap,rfl,h1,h2,h3,h4⟩:=h;exact ⟨a,b,o,cap,rfl,h1,h2,h3,fun i hi=>let ⟨x,hx,hp⟩:=h4 i hi; ⟨x,YtndldmojkpjgoaaGreatDoor.keep hb hx,hP _ _ hp⟩⟩
theorem PRow.keep {w w' : World} (hb : RowKit.Below w.heap.size w w') {v : Value} {l : List Int} (h : PRow w v l) : PRow w' v l:=⟨Sl.keep hb (fun _ _ h=>h) h.1,h.2⟩
theorem ax {w : World} {cs : Array Value} {T : TypeId} {i : Nat} {v : Value} (h : cs[i]? = some v) : (w.alloc (.cells cs T)).cell? ⟨w.heap.size,i,none⟩ = some v:=by
 unfold World.cell?;rw [show (w.alloc (.cells cs T)).heap = w.heap.push (.cells cs T) from rfl]
 simp [h]
theorem ao (w : World) (o : Obj) : RowKit.Below w.heap.size w (w.alloc o):=(RowKit.Below.refl _ _).alloc (Nat.le_refl _) _
theorem ak {w w1 w2 : World} (h1 : RowKit.Below w.heap.size w w1) (h2 : RowKit.Below w1.heap.size w1 w2) : RowKit.Below w.heap.size w w2:=h1.trans (h2.mono h1.size)
theorem jj {α : Type} (l : List α) (p : α → Bool) (k : Nat) (h : k < l.length) : (l.take (k + 1)).all p = ((l.take k).all p && p l[k]):=by
 rw [List.take_succ_eq_append_getElem h,List.all_append];simp
theorem ju {α : Type} {l : List α} {p : α → Bool} {k : Nat} (h : k < l.length) (hp : p l[k] = false) : l.all p = false:=by
 rw [List.all_eq_false];exact ⟨l[k],List.getElem_mem h,by simp [hp]⟩
theorem ac4 (L s : Int) (vn ve : Value) (next : List (List Int)) (fin : List Bool) (w : World) (hn : Sl w vn next PRow) (he : Sl w ve fin je) (hL : I64 L) :
  Calls Tryz.prog 50 #[.agg #[Vi L,Vi s,vn,ve]] w fun e w'=>e = .returned (.bool (e9 L s next fin)) ∧ RowKit.Below w.heap.size w w':=by
 refine Sym.c8 (args:=[.agg #[Vi L,Vi s,vn,ve]]) Tryz.func50 rfl rfl rfl (fun a0 hS0=>?_);refine wp_seq (ai [(1,Vp w.heap.size)] (· = w.alloc (.cells #[Vi L,Vi s,vn,ve] 25)) af hS0 ?_ (fun a wc hS hw=>?_))
 ·refine zB rfl ?_
  repeat refine zX rfl ?_
  exact aj ⟨⟨rfl,trivial⟩,rfl⟩
 have hB : RowKit.Below w.heap.size w wc:=by rw [hw]; exact ao _ _
 have c0 : wc.cell? ⟨w.heap.size,0,none⟩ = some (Vi L):=by rw [hw]; exact ax rfl
 have c1 : wc.cell? ⟨w.heap.size,1,none⟩ = some (Vi s):=by rw [hw]; exact ax rfl
 have c2 : wc.cell? ⟨w.heap.size,2,none⟩ = some vn:=by rw [hw]; exact ax rfl
 have c3 : wc.cell? ⟨w.heap.size,3,none⟩ = some ve:=by rw [hw]; exact ax rfl
 clear hw;replace hn:=hn.keep hB (fun _ _ h=>PRow.keep hB h);replace he:=he.keep hB (fun _ _ h=>h);obtain ⟨an,bn,on,cn,rfl,hna,hn1,hn2,hn3⟩:=hn;obtain ⟨ae,be,oe,ce,rfl,hea,he1,he2,he3⟩:=he;refine wp_seq (ai [(1,Vp w.heap.size),(3,Vi next.length)] (· = wc) af hS ?_ (fun a w' hS hw=>?_))
 ·repeat refine zX rfl ?_
  refine zL rfl (c2) ?_
  repeat refine zX rfl ?_
  exact aj ⟨⟨rfl,rfl,trivial⟩,rfl⟩
 subst hw;obtain ⟨hb,hhb⟩ : ∃ hb,im L s next.length fin.length = hb:=⟨_,rfl⟩;refine wp_seq (wp_seq (ai [(1,Vp w.heap.size),(3,Vi next.length),(42,.bool hb)] (· = w') af hS ?_ (fun a w2 hS hw=>?_)))
 ·repeat refine zX rfl ?_
  refine zL rfl (c0) ?_
  cases h1 : decide (L < 0)
  case true=>
   refine zC rfl (h1) ?_
   repeat refine zX rfl ?_
   obtain rfl : hb = true:=by rw [← hhb]; unfold im; simp only [h1]; simp
   exact aj ⟨⟨rfl,rfl,rfl,trivial⟩,rfl⟩
  refine zC rfl (h1) ?_
  repeat refine zX rfl ?_
  refine zL rfl (c3) ?_
  repeat refine zX rfl ?_
  cases h2 : decide ((fin.length : Int) ≠ (next.length : Int))
  case true=>
   refine zC rfl (h2) ?_
   repeat refine zX rfl ?_
   obtain rfl : hb = true:=by rw [← hhb]; unfold im; simp only [h2]; simp
   exact aj ⟨⟨rfl,rfl,rfl,trivial⟩,rfl⟩
  refine zC rfl (h2) ?_
  repeat refine zX rfl ?_
  cases h3 : decide ((next.length : Int) = 0)
  case true=>
   have h5 : decide (0 < (next.length : Int)) = false:=by
    have:=of_decide_eq_true h3
    exact decide_eq_false (by omega)
   refine zC rfl (h3) ?_
   repeat refine zX rfl ?_
   refine zL rfl (c1) ?_
   cases h4 : decide (s ≠ -1)
   case true=>
    refine zC rfl (h4) ?_
    repeat refine zX rfl ?_
    obtain rfl : hb = true:=by rw [← hhb]; unfold im; simp only [h3,h4]; simp
    exact aj ⟨⟨rfl,rfl,rfl,trivial⟩,rfl⟩
   refine zC rfl (h4) ?_
   repeat refine zX rfl ?_
   refine zC rfl (h5) ?_
   repeat refine zX rfl ?_
   obtain rfl : hb = false:=by rw [← hhb]; unfold im; simp only [h1,h2,h4,h5]; simp
   exact aj ⟨⟨rfl,rfl,rfl,trivial⟩,rfl⟩
  have h5 : decide (0 < (next.length : Int)) = true:=by
   have:=of_decide_eq_false h3
   exact decide_eq_true (by omega)
  refine zC rfl (h3) ?_
  repeat refine zX rfl ?_
  refine zC rfl (h5) ?_
  repeat refine zX rfl ?_
  refine zL rfl (c1) ?_
  cases h6 : decide (s < 0)
  case true=>
   refine zC rfl (h6) ?_
   repeat refine zX rfl ?_
   obtain rfl : hb = true:=by rw [← hhb]; unfold im; simp only [h5,h6]; simp
   exact aj ⟨⟨rfl,rfl,rfl,trivial⟩,rfl⟩
  refine zC rfl (h6) ?_
  repeat refine zX rfl ?_
  refine zL rfl (c1) ?_
  repeat refine zX rfl ?_
  cases h7 : decide ((next.length : Int) ≤ s)
  case true=>
   refine zC rfl (h7) ?_
   repeat refine zX rfl ?_
   obtain rfl : hb = true:=by rw [← hhb]; unfold im; simp only [h5,h7]; simp
   exact aj ⟨⟨rfl,rfl,rfl,trivial⟩,rfl⟩
  case false=>
   refine zC rfl (h7) ?_
   repeat refine zX rfl ?_
   obtain rfl : hb = false:=by rw [← hhb]; unfold im; simp only [h1,h2,h3,h5,h6,h7]; simp
   exact aj ⟨⟨rfl,rfl,rfl,trivial⟩,rfl⟩
 subst hw;clear c3 c1;refine cond hS rfl (fun hbt=>?_) (fun hbf=>?_)
 ·refine wp_seq (ai [(2,.bool false)] (· = w2) af hS ?_ (fun a w3 hS hw=>?_))
  ·repeat refine zX rfl ?_
   exact aj ⟨⟨rfl,trivial⟩,rfl⟩
  subst hw;refine wp_ret ?_
  repeat first|refine a8 ?_|refine am ?_
  refine ret1 hS rfl rfl ⟨?_,hB⟩;rw [e9,hhb,hbt]; rfl
 refine wp_skip ?_;subst hbf;refine wp_seq (wp_seq (ai [(1,Vp w.heap.size),(3,Vi next.length),(4,Vi 0)] (· = w2) af hS ?_ (fun a w3 hS hw=>?_)))
 ·repeat refine zX rfl ?_
  exact aj ⟨⟨rfl,rfl,rfl,trivial⟩,rfl⟩
 subst hw
 refine wp_block (cz hS (fun g E wr=>∃ k : Nat,k ≤ next.length ∧ g = next.length - k ∧ E = [(1,Vp w.heap.size),(3,Vi next.length),(4,Vi k)] ∧ RowKit.Below w3.heap.size w3 wr ∧ (next.take k).all (p7 next.length L) = true)
  next.length ⟨0,Nat.zero_le _,rfl,rfl,RowKit.Below.refl _ _,rfl⟩ ?_)
 rintro g E wr a1 ⟨k,hk,rfl,rfl,hK,hall⟩ hS1;refine wp_seq (wp_seq (ai [(1,Vp w.heap.size),(3,Vi next.length),(4,Vi k),(45,.bool (decide ((k : Int) < next.length)))] (· = wr) af hS1 ?_ (fun a w4 hS hw=>?_)))
 ·repeat refine zX rfl ?_
  refine zC rfl (rfl) ?_
  repeat refine zX rfl ?_
  exact aj ⟨⟨rfl,rfl,rfl,rfl,trivial⟩,rfl⟩
 subst hw;refine cond hS rfl (fun hlt=>?_) (fun hge=>?_)
 case refine_2=>
  refine wp_exit ?_
  repeat first|refine bf ?_|refine ba ?_|refine az rfl ?_
  have hge:=of_decide_eq_false hge;refine wp_seq (ai [(2,.bool true)] (· = w4) af hS ?_ (fun a w3 hS hw=>?_))
  ·repeat refine zX rfl ?_
   exact aj ⟨⟨rfl,trivial⟩,rfl⟩
  subst hw;refine wp_ret ?_
  repeat first|refine a8 ?_|refine am ?_
  refine ret1 hS rfl rfl ⟨?_,ak hB hK⟩;rw [List.take_of_length_le (by omega)] at hall;rw [e9,hhb,hall]; rfl
 have hlt : k < next.length:=by have:=of_decide_eq_true hlt; omega
 obtain rfl:=hna (by omega);obtain ⟨x,hx,hr⟩:=hn3 k hlt;have hr:=hr.keep hK;have hx:=keep hK hx;have d0:=keep hK c0;have d2:=keep hK c2;obtain ⟨ar,br,orr,cr,rfl,har,hr1,hr2,hr3⟩:=hr.1;refine wp_skip ?_;refine wp_seq (wp_block ?_);refine wp_seq (wp_seq (b6 [(1,Vp w.heap.size),(3,Vi next.length),(4,Vi k),(56,.bool (decide ((next[k].length : Int) ≠ L)))] af dc (by kernel_rfl) hS ?_ (fun a w5 hS hw=>?_)))
 ·repeat refine qX rfl ?_
  refine qL rfl (d2) ?_
  repeat refine qX rfl ?_
  refine qI rfl (rfl) (hlt) ?_;refine qL rfl (hx) ?_
  repeat refine qX rfl ?_
  refine qL rfl (d0) ?_;refine qC rfl (rfl) ?_
  repeat refine qX rfl ?_
  exact fa ⟨rfl,rfl,rfl,rfl,trivial⟩
 replace hK:=ak hK hw;refine cond hS rfl (fun hT=>?_) (fun hF=>?_)
 ·refine wp_seq (ai [(2,.bool false)] (· = w5) af hS ?_ (fun a w3 hS hw=>?_))
  ·repeat refine zX rfl ?_
   exact aj ⟨⟨rfl,trivial⟩,rfl⟩
  subst hw;refine wp_ret ?_
  repeat first|refine a8 ?_|refine am ?_
  refine ret1 hS rfl rfl ⟨?_,ak hB hK⟩;have hT:=of_decide_eq_true hT;rw [e9,ju hlt (by simp [p7,hT])]; simp
 have hF:=of_decide_eq_false hF;have hF : (next[k].length : Int) = L:=by omega
 subst hF;refine wp_skip ?_;refine wp_seq (ai [(1,Vp w.heap.size),(3,Vi next.length),(4,Vi k),(5,Vi 0)] (· = w5) af hS ?_ (fun a w6 hS hw6=>?_))
 ·repeat refine zX rfl ?_
  exact aj ⟨⟨rfl,rfl,rfl,rfl,trivial⟩,rfl⟩
 subst hw6;replace hx:=keep hw hx;replace d0:=keep hw d0;replace d2:=keep hw d2;replace hr3 : ∀ (i : Nat) (h : i < next[k].length),∃ x,w6.cell? ⟨br,orr + i,none⟩ = some x ∧ PInt w6 x next[k][i]:=fun i h=>let ⟨x,h1,h2⟩:=hr3 i h; ⟨x,keep hw h1,h2⟩
 refine wp_block (cz hS (fun g E wr=>∃ j : Nat,j ≤ next[k].length ∧ g = next[k].length - j ∧ E = [(1,Vp w.heap.size),(3,Vi next.length),(4,Vi k),(5,Vi j)] ∧ wr = w6 ∧ (next[k].take j).all (fun x=>decide (-1 ≤ x) && decide (x < next.length)) = true)
  next[k].length ⟨0,Nat.zero_le _,rfl,rfl,rfl,rfl⟩ ?_)
 rintro g E wr a2 ⟨j,hj,rfl,rfl,rfl,hall2⟩ hS2;refine wp_seq (wp_seq (ai [(1,Vp w.heap.size),(3,Vi next.length),(4,Vi k),(5,Vi j),(60,.bool (decide ((j : Int) < next[k].length)))] (· = wr) af hS2 ?_ (fun a w7 hS hw7=>?_)))
 ·repeat refine zX rfl ?_
  refine zL rfl (d0) ?_;refine zC rfl (rfl) ?_
  repeat refine zX rfl ?_
  exact aj ⟨⟨rfl,rfl,rfl,rfl,rfl,trivial⟩,rfl⟩
 subst hw7;refine cond hS rfl (fun hlt2=>?_) (fun hge2=>?_)
 case refine_2=>
  refine wp_exit ?_
  repeat first|refine bf ?_|refine ba ?_|refine az rfl ?_
  have hge2:=of_decide_eq_false hge2;refine ay ?_;refine b4 ?_;refine ai [(1,Vp w.heap.size),(3,Vi next.length),(4,Vi (k + 1 : Nat))] (· = w7) af hS ?_ (fun a w8 hS hw8=>?_)
  ·repeat refine zX rfl ?_
   refine zN rfl (ck (by omega)) ?_
   repeat refine zX rfl ?_
   exact aj ⟨⟨rfl,rfl,rfl,trivial⟩,rfl⟩
  subst hw8;refine ⟨next.length - (k + 1),[(1,Vp w.heap.size),(3,Vi next.length),(4,Vi (k + 1 : Nat))],by omega,⟨k + 1,by omega,rfl,rfl,hK,?_⟩,hS⟩;rw [List.take_of_length_le (by omega)] at hall2;rw [jj _ _ _ hlt,hall,p7,hall2];simp
 have hlt2 : j < next[k].length:=by have:=of_decide_eq_true hlt2; omega
 obtain rfl:=har (by omega);obtain ⟨y,hy,rfl,hyb⟩:=hr3 j hlt2;refine wp_skip ?_;refine wp_seq (wp_block ?_);obtain ⟨hb3,hhb3⟩ : ∃ b,(decide (next[k][j] < -1) || decide ((next.length : Int) ≤ next[k][j])) = b:=⟨_,rfl⟩;refine wp_seq (ai [(1,Vp w.heap.size),(3,Vi next.length),(4,Vi k),(5,Vi j),(83,.bool hb3)] (· = w7) af hS ?_ (fun a w8 hS hw8=>?_))
 ·repeat refine zX rfl ?_
  refine zL rfl (d2) ?_
  repeat refine zX rfl ?_
  refine zI rfl (rfl) (hlt) ?_;refine zL rfl (hx) ?_
  repeat refine zX rfl ?_
  refine zI rfl (rfl) (hlt2) ?_;refine zL rfl (hy) ?_
  cases e1 : decide (next[k][j] < -1)
  case true=>
   rw [e1] at hhb3;refine zC rfl (e1) ?_
   repeat refine zX rfl ?_
   subst hhb3;exact aj ⟨⟨rfl,rfl,rfl,rfl,rfl,trivial⟩,rfl⟩
  case false=>
   rw [e1,Bool.false_or] at hhb3;refine zC rfl (e1) ?_
   repeat refine zX rfl ?_
   refine zL rfl (d2) ?_
   repeat refine zX rfl ?_
   refine zI rfl (rfl) (hlt) ?_;refine zL rfl (hx) ?_
   repeat refine zX rfl ?_
   refine zI rfl (rfl) (hlt2) ?_;refine zL rfl (hy) ?_
   repeat refine zX rfl ?_
   refine zC rfl (hhb3) ?_
   repeat refine zX rfl ?_
   exact aj ⟨⟨rfl,rfl,rfl,rfl,rfl,trivial⟩,rfl⟩
 subst hw8;refine cond hS rfl (fun hT=>?_) (fun hF=>?_)
 ·refine wp_seq (ai [(2,.bool false)] (· = w8) af hS ?_ (fun a w3 hS hw=>?_))
  ·repeat refine zX rfl ?_
   exact aj ⟨⟨rfl,trivial⟩,rfl⟩
  subst hw;refine wp_ret ?_
  repeat first|refine a8 ?_|refine am ?_
  refine ret1 hS rfl rfl ⟨?_,ak hB hK⟩;subst hT
  have hbad : p7 next.length (next[k].length : Int) next[k] = false:=by
   rw [p7,ju hlt2 (p:=fun (x : Int)=>decide (-1 ≤ x) && decide (x < next.length))]
   ·simp
   ·simp only [Bool.or_eq_true,decide_eq_true_eq] at hhb3;simp only [Bool.and_eq_false_iff,decide_eq_false_iff_not];omega
  rw [e9,ju hlt hbad]; simp
 refine wp_skip ?_;refine ay ?_;refine b4 ?_;subst hF;refine ai [(1,Vp w.heap.size),(3,Vi next.length),(4,Vi k),(5,Vi (j + 1 : Nat))] (· = w8) af hS ?_ (fun a w9 hS hw9=>?_)
 ·repeat refine zX rfl ?_
  refine zN rfl (ck (by omega)) ?_
  repeat refine zX rfl ?_
  exact aj ⟨⟨rfl,rfl,rfl,rfl,trivial⟩,rfl⟩
 subst hw9;refine ⟨next[k].length - (j + 1),_,by omega,⟨j + 1,by omega,rfl,rfl,rfl,?_⟩,hS⟩;rw [jj _ _ _ hlt2,hall2];simp only [Bool.or_eq_false_iff,decide_eq_false_iff_not] at hhb3;simp only [Bool.true_and,Bool.and_eq_true,decide_eq_true_eq];omega
end
section
open Go Sym
theorem ajq : bk Tryz.prog 17 = true:=by kernel_rfl
theorem agz : bk Tryz.prog 50 = true:=by kernel_rfl
structure Ma (w : World) (L s : Int) (next : List (List Int)) (fin : List Bool) (vn ve : Value) : Prop where
 n : Sl w vn next PRow
 e : Sl w ve fin je
 L : I64 L
 s : I64 s
 okn : Ok vn
 oke : Ok ve
theorem Ma.keep {w w' : World} (hb : RowKit.Below w.heap.size w w') {L s : Int} {next : List (List Int)} {fin : List Bool} {vn ve : Value} (h : Ma w L s next fin vn ve) : Ma w' L s next fin vn ve:=
 ⟨h.n.keep hb (fun _ _ h=>PRow.keep hb h),h.e.keep hb (fun _ _ h=>h),h.L,h.s,h.okn,h.oke⟩
structure Box (w : World) (B : Nat) (L s : Int) (vn ve : Value) : Prop where
 c0 : w.cell? ⟨B,0,none⟩ = some (Vi L)
 c1 : w.cell? ⟨B,1,none⟩ = some (Vi s)
 c2 : w.cell? ⟨B,2,none⟩ = some vn
 c3 : w.cell? ⟨B,3,none⟩ = some ve
theorem Box.keep {w w' : World} (hb : RowKit.Below w.heap.size w w') {B : Nat} {L s : Int} {vn ve : Value} (h : Box w B L s vn ve) : Box w' B L s vn ve:=
 ⟨YtndldmojkpjgoaaGreatDoor.keep hb h.c0,YtndldmojkpjgoaaGreatDoor.keep hb h.c1,YtndldmojkpjgoaaGreatDoor.keep hb h.c2,YtndldmojkpjgoaaGreatDoor.keep hb h.c3⟩
theorem Box.new (w : World) (L s : Int) (vn ve : Value) (T : TypeId) : Box (w.alloc (.cells #[Vi L,Vi s,vn,ve] T)) w.heap.size L s vn ve:=
 ⟨ax rfl,ax rfl,ax rfl,ax rfl⟩
theorem Box.cells {w : World} {B : Nat} {L s : Int} {vn ve : Value} (h : Box w B L s vn ve) : ca w.cell? B 0 [Vi L,Vi s,vn,ve]:=⟨h.c0,h.c1,h.c2,h.c3,trivial⟩
theorem Sl.len {w : World} {v : Value} {α : Type} {l : List α} {P : World → Value → α → Prop} (h : Sl w v l P) : ∃ a cap,v = .slice a l.length cap:=by
 obtain ⟨a,b,o,cap,rfl,_⟩:=h; exact ⟨a,cap,rfl⟩
theorem Sl.lt {w : World} {v : Value} {α : Type} {l : List α} {P : World → Value → α → Prop} (h : Sl w v l P) : l.length ≤ 9223372036854775807:=by
 obtain ⟨a,b,o,cap,rfl,_,h1,h2,_⟩:=h; omega
theorem aep (L s : Int) (vn ve : Value) (next : List (List Int)) (fin : List Bool) (w : World) (hm : Ma w L s next fin vn ve) :
  Calls Tryz.prog 17 #[.agg #[Vi L,Vi s,vn,ve]] w fun e w'=>e = .returned (Vi (de L s next fin)) ∧ RowKit.Below w.heap.size w w':=by
 refine Sym.c8 (args:=[.agg #[Vi L,Vi s,vn,ve]]) Tryz.func17 rfl rfl rfl (fun a0 hS0=>?_);refine wp_seq (ai [(1,Vp w.heap.size)] (· = w.alloc (.cells #[Vi L,Vi s,vn,ve] 25)) af hS0 ?_ (fun a wc hS hw=>?_))
 ·refine zB rfl ?_
  repeat refine zX rfl ?_
  exact aj ⟨⟨rfl,trivial⟩,rfl⟩
 have hB : RowKit.Below w.heap.size w wc:=by rw [hw]; exact ao _ _
 have hx : Box wc w.heap.size L s vn ve:=by rw [hw]; exact Box.new _ _ _ _ _ _
 clear hw;replace hm:=hm.keep hB;obtain ⟨hb,hhb⟩ : ∃ b,(!e9 L s next fin) = b:=⟨_,rfl⟩;refine wp_seq (wp_seq (ai [(1,Vp w.heap.size),(5,.bool hb)] (fun w'=>RowKit.Below wc.heap.size wc w') af hS ?_ (fun a w2 hS hw=>?_)))
 ·refine zA ([Vi L,Vi s,vn,ve]) rfl rfl (hx.cells) ?_;refine zF rfl (agz) (ac4 L s vn ve next fin _ hm.n hm.e hm.L) ?_;rintro e w1 ⟨rfl,h1⟩;refine ⟨_,rfl,?_⟩;subst hhb
  repeat refine zX rfl ?_
  exact aj ⟨⟨rfl,rfl,trivial⟩,h1⟩
 replace hB:=ak hB hw;replace hx:=hx.keep hw;replace hm:=hm.keep hw;refine cond hS rfl (fun hT=>?_) (fun hF=>?_)
 ·refine wp_seq (ai [(2,Vi 1)] (· = w2) af hS ?_ (fun a w3 hS hw=>?_))
  ·repeat refine zX rfl ?_
   exact aj ⟨⟨rfl,trivial⟩,rfl⟩
  subst hw;refine wp_ret ?_
  repeat first|refine a8 ?_|refine am ?_
  refine ret1 hS rfl rfl ⟨by rw [de,hhb,hT],hB⟩
 subst hF;refine wp_skip ?_;obtain ⟨hb2,hhb2⟩ : ∃ b,(decide (300 < L) || decide (4000 < (next.length : Int))) = b:=⟨_,rfl⟩;obtain ⟨an,cn,hvn⟩:=hm.n.len;refine wp_seq (wp_seq (ai [(14,.bool hb2)] (· = w2) af hS ?_ (fun a w3 hS hw=>?_)))
 ·repeat refine zX rfl ?_
  refine zL rfl (hx.c0) ?_
  cases e1 : decide (300 < L)
  case true=>
   rw [e1] at hhb2; subst hhb2;refine zC rfl (e1) ?_
   repeat refine zX rfl ?_
   exact aj ⟨⟨rfl,trivial⟩,rfl⟩
  case false=>
   rw [e1,Bool.false_or] at hhb2;refine zC rfl (e1) ?_
   repeat refine zX rfl ?_
   refine zL rfl (hvn ▸ hx.c2) ?_
   repeat refine zX rfl ?_
   refine zC rfl (hhb2) ?_
   repeat refine zX rfl ?_
   exact aj ⟨⟨rfl,trivial⟩,rfl⟩
 subst hw;refine cond hS rfl (fun hT=>?_) (fun hF=>?_)
 ·refine wp_seq (ai [(2,Vi 5)] (· = w3) af hS ?_ (fun a w4 hS hw=>?_))
  ·repeat refine zX rfl ?_
   exact aj ⟨⟨rfl,trivial⟩,rfl⟩
  subst hw;refine wp_ret ?_
  repeat first|refine a8 ?_|refine am ?_
  refine ret1 hS rfl rfl ⟨by rw [de,hhb,hhb2,hT],hB⟩
 refine wp_skip ?_;refine wp_seq (ai [(2,Vi 0)] (· = w3) af hS ?_ (fun a w4 hS hw=>?_))
 ·repeat refine zX rfl ?_
  exact aj ⟨⟨rfl,trivial⟩,rfl⟩
 subst hw;refine wp_ret ?_
 repeat first|refine a8 ?_|refine am ?_
 refine ret1 hS rfl rfl ⟨by rw [de,hhb,hhb2,hF],hB⟩
end
section
open Go Sym
end
section
open Go Sym
def OwnB (w : World) (b : Nat) (T : TypeId) (vs : List Value) : Prop:=w.heap[b]? = some (.cells vs.toArray T (0,0))
section
variable {w : World} {b : Nat} {T : TypeId} {vs : List Value}
theorem OwnB.lt (h : OwnB w b T vs) : b < w.heap.size:=(Array.getElem?_eq_some_iff.1 h).1
theorem OwnB.cell (h : OwnB w b T vs) {i : Nat} {v : Value} (hv : vs[i]? = some v) : w.cell? ⟨b,i,none⟩ = some v:=by
 unfold World.cell?;rw [show w.heap[(⟨b,i,none⟩ : Addr).block]? = _ from h]
 simpa using hv
theorem OwnB.free (h : OwnB w b T vs) (i : Nat) : w.frozen? ⟨b,i,none⟩ = false:=by
 unfold World.frozen?;rw [show w.heap[(⟨b,i,none⟩ : Addr).block]? = _ from h]
 simp
theorem OwnB.kept {w' : World} {row : Option Nat} (h : OwnB w b T vs) (hg : w.grownBy w' row) (hne : some b ≠ row) : OwnB w' b T vs:=(hg.block b h.lt hne).trans h
theorem OwnB.new (w : World) (vs : List Value) (T : TypeId) : OwnB (w.alloc (.cells vs.toArray T)) w.heap.size T vs:=heap_alloc_new w _
theorem kg {w : World} (b i : Nat) (v : Value) {cs : Array Value} {T : TypeId} {fr : Nat × Nat} (h : w.heap[b]? = some (.cells cs T fr)) : (w.setCell ⟨b,i,none⟩ v).heap[b]? = some (.cells (cs.setIfInBounds i v) T fr):=by
 simp [World.setCell,Array.getElem?_modify,h]
theorem OwnB.set (h : OwnB w b T vs) (i : Nat) (v : Value) : OwnB (w.setCell ⟨b,i,none⟩ v) b T (vs.set i v):=by
 have:=kg b i v h
 unfold OwnB;rw [this];simp
theorem jc (w : World) (b i : Nat) (v : Value) : w.grownBy (w.setCell ⟨b,i,none⟩ v) (some b):=
 ⟨rfl,rfl,rfl,by simp [World.setCell],fun k _ hk=>RowKit.Below.heap_setCell _ _ _ _ (fun e=>hk (by rw [e]))⟩
theorem aau {a c : World} {row : Option Nat} (h : w.grownBy a row) (k : a.grownBy c row) : w.grownBy c row:=
 ⟨k.os.trans h.os,k.tape.trans h.tape,k.output.trans h.output,Nat.le_trans h.size k.size,fun i hi hr=>(k.block i (Nat.lt_of_lt_of_le hi h.size) hr).trans (h.block i hi hr)⟩
theorem bz (b : Nat) : ∀ (vs : List Value) (o : Nat) (w : World),w.grownBy (w.setCells b o vs) (some b)
 | [],_,_=>⟨rfl,rfl,rfl,Nat.le_refl _,fun _ _ _=>rfl⟩
 | v :: r,o,w=>aau (jc w b o v) (bz b r (o + 1) _)
theorem yb (b : Nat) {T : TypeId} {fr : Nat × Nat} : ∀ (vs : List Value) (o : Nat) (w : World) (cs : List Value),w.heap[b]? = some (.cells cs.toArray T fr) → o + vs.length ≤ cs.length →
  (w.setCells b o vs).heap[b]? = some (.cells (cs.take o ++ vs ++ cs.drop (o + vs.length)).toArray T fr)
 | [],o,w,cs,h,_=>by simp [World.setCells,h]
 | v :: r,o,w,cs,h,hl=>by
   have h1:=kg b o v h;rw [show cs.toArray.setIfInBounds o v = (cs.set o v).toArray from by simp] at h1
   simp only [List.length_cons] at hl;rw [World.setCells,yb b r (o + 1) _ _ h1 (by simp; omega)]
   congr 2
   have e1 : (cs.set o v).take (o + 1) = cs.take o ++ [v]:=by
    rw [List.take_succ_eq_append_getElem (by simp; omega)]
    have e3 : (cs.set o v).take o = cs.take o:=by
     apply List.ext_getElem?
     intro j;rw [List.getElem?_take,List.getElem?_take]
     split
     ·rw [List.getElem?_set_ne (by omega)]
     ·rfl
    rw [e3];simp
   have e2 : (cs.set o v).drop (o + 1 + r.length) = cs.drop (o + 1 + r.length):=List.drop_set_of_lt (by omega);rw [e1,e2];simp [List.length_cons,Nat.add_comm,Nat.add_left_comm]
theorem OwnB.sets (h : OwnB w b T vs) {us : List Value} (hl : us.length = vs.length) : OwnB (w.setCells b 0 us) b T us:=by
 have:=yb b us 0 w vs h (by omega)
 unfold OwnB;rw [this];simp [hl]
end
section
variable {w : World}
theorem jp {b1 b2 e1 e2 s1 s2 n1 n2 : Nat} {v u : Value} {xs ys : List Value} (h : w.ownsRow b1 e1 s1 v n1 xs) (k : w.ownsRow b2 e2 s2 u n2 ys) (he : e1 ≠ e2) : u.ownBlock = none ∨ u.ownBlock ≠ v.ownBlock:=by
 rcases k.2 with ⟨rfl,_⟩ | ⟨g,cap,cur,rfl,_,hg,_⟩
 ·exact .inl rfl
 ·rcases h.2 with ⟨rfl,_⟩ | ⟨g',cap',cur',rfl,_,hg',_⟩
  ·exact .inr (by simp [Value.ownBlock])
  ·refine .inr (fun e=>he ?_);simp only [Value.ownBlock,Option.some.injEq] at e;subst e;rw [hg'] at hg;simp only [Option.some.injEq,Obj.cells.injEq] at hg;exact hg.2.1
theorem gz {b1 e1 s1 n1 b e2 : Nat} {v : Value} {xs vs : List Value} (h : w.ownsRow b1 e1 s1 v n1 xs) (k : OwnB w b e2 vs) (he : e1 ≠ e2) : some b ≠ v.ownBlock:=by
 rcases h.2 with ⟨rfl,_⟩ | ⟨g',cap',cur',rfl,_,hg',_⟩
 ·simp [Value.ownBlock]
 ·intro e;simp only [Value.ownBlock,Option.some.injEq] at e;subst e;unfold OwnB at k;rw [hg'] at k;simp only [Option.some.injEq,Obj.cells.injEq] at k;exact he k.2.1
theorem jn {base e n : Nat} {v : Value} {xs : List Value} {α : Type} {l : List α} {P : World → Value → α → Prop} (h : w.ownsRow base e 1 v n xs) (hn : n = l.length)
  (hP : ∀ i (hi : i < l.length),∃ x,xs[i]? = some x ∧ P w x l[i]) : Sl w v l P ∧ Ok v:=by
 subst hn
 rcases h.2 with ⟨rfl,h0⟩ | ⟨g,cap,cur,rfl,_,hg,h1,h2,_⟩
 ·refine ⟨⟨none,0,0,0,by rw [h0],by omega,by omega,by omega,fun i hi=>by omega⟩,.inl (.inl rfl)⟩
 ·refine ⟨⟨some ⟨g,0,none⟩,g,0,cap,rfl,fun _=>rfl,h1,by unfold maxLen at h2; omega,fun i hi=>?_⟩,.inr ⟨g,0,_,cap,rfl⟩⟩;obtain ⟨x,hx,hp⟩:=hP i hi;refine ⟨x,?_,hp⟩
  have:=h.cells (g:=g) rfl i x hx
  rw [Nat.zero_add];unfold Addr.add at this
  split at this
  ·rename_i h0; subst h0; exact this
  ·simpa using this
theorem uo {v : Value} {α : Type} {l : List α} {P : World → Value → α → Prop} {f : α → Value} (h : Sl w v l P) (hok : Ok v) (hf : ∀ x y,P w x y → x = f y) :
  ((v = .slice none 0 0 ∨ ∃ ad c,v = .slice (some ad) 0 c) ∧ l.length = 0 ∧ l.map f = []) ∨ ∃ b o c,v = .slice (some ⟨b,o,none⟩) l.length c ∧ ca w.cell? b o (l.map f):=by
 obtain ⟨a,b,o,cap,rfl,h1,h2,h3,h4⟩:=h
 have hcells : ca w.cell? b o (l.map f):=by
  have : ∀ (l : List α) (o : Nat),(∀ i (h : i < l.length),∃ x,w.cell? ⟨b,o + i,none⟩ = some x ∧ P w x l[i]) → ca w.cell? b o (l.map f):=by
   intro l
   induction l with
   | nil=>intro o _; exact trivial
   | cons y r ih=>
     intro o hc;refine ⟨?_,ih (o + 1) (fun i hi=>?_)⟩
     ·obtain ⟨x,hx,hp⟩:=hc 0 (by simp);rw [← hf x y hp]; simpa using hx
     ·obtain ⟨x,hx,hp⟩:=hc (i + 1) (by simp; omega);exact ⟨x,by rw [show o + 1 + i = o + (i + 1) by omega]; exact hx,by simpa using hp⟩
  exact this l o h4
 rcases hok with (h0 | ⟨ad,c',h0⟩) | ⟨b',o',n',c',h0⟩
 ·simp only [Value.slice.injEq] at h0;obtain ⟨rfl,hl,rfl⟩:=h0;refine .inl ⟨.inl (by rw [hl]),hl,by simp [List.eq_nil_of_length_eq_zero hl]⟩
 ·simp only [Value.slice.injEq] at h0;obtain ⟨rfl,hl,rfl⟩:=h0;refine .inl ⟨.inr ⟨ad,_,by rw [hl]⟩,hl,by simp [List.eq_nil_of_length_eq_zero hl]⟩
 ·simp only [Value.slice.injEq] at h0;obtain ⟨rfl,hl,rfl⟩:=h0
  rcases Nat.eq_zero_or_pos l.length with hz | hz
  ·exact .inr ⟨b',o',_,rfl,by simp [List.eq_nil_of_length_eq_zero hz,ca]⟩
  ·have:=h1 hz
   simp only [Option.some.injEq,Addr.mk.injEq] at this;obtain ⟨rfl,rfl,_⟩:=this;exact .inr ⟨_,_,_,rfl,hcells⟩
theorem jq (w : World) (base e : Nat) (hb : base ≤ w.heap.size) : (w.alloc (.cells #[] e)).ownsRow base e 1 (Vs w.heap.size 0 0) 0 []:=
 World.ownsRow_made w #[] 0 hb (by simp [maxLen]) (by simp)
end
end
section
open Go Sym
theorem a6 {w0 w w' : World} {row : Option Nat} (h : RowKit.Below w0.heap.size w0 w) (hg : w.grownBy w' row) (hr : ∀ k,row = some k → w0.heap.size ≤ k) : RowKit.Below w0.heap.size w0 w':=h.grown hg h.size hr
structure CopyI (base : Nat) (w : World) (b3 : Nat) (L s : Int) (rows : List (List Int)) (fin : List Bool) : Prop where
 b : base ≤ b3
 mem : ∃ vn ve us,OwnB w b3 25 [Vi L,Vi s,vn,ve] ∧ w.ownsRow base 4 1 ve fin.length (fin.map .bool) ∧ w.ownsRow base 34 1 vn rows.length us ∧
  us.length = rows.length ∧ ∀ i (h : i < rows.length),∃ u,us[i]? = some u ∧ w.ownsRow base 3 1 u rows[i].length (rows[i].map (Value.int .i64)) ∧ ∀ x ∈ rows[i],I64 x
theorem ri {base : Nat} {w0 w3 : World} {b3 : Nat} {L s : Int} {v' : Value} {fin : List Bool} (h : RowKit.Below w0.heap.size w0 w3) (hb : base ≤ b3) (hb3 : w0.heap.size ≤ b3) (ho : OwnB w3 b3 25 [Vi 0,Vi 0,.slice none 0 0,.slice none 0 0])
  (hv : w3.ownsRow base 4 1 v' fin.length (fin.map .bool)) : RowKit.Below w0.heap.size w0 (w3.setCells b3 0 [Vi L,Vi s,.slice none 0 0,v']) ∧ CopyI base (w3.setCells b3 0 [Vi L,Vi s,.slice none 0 0,v']) b3 L s [] fin:=by
 have hg:=bz b3 [Vi L,Vi s,.slice none 0 0,v'] 0 w3;refine ⟨a6 h hg (fun k hk=>by cases hk; exact hb3),hb,_,_,[],ho.sets rfl,hv.kept hg ?_,World.ownsRow_nil _ _ _ _,rfl,fun i hi=>by simp at hi⟩
 rcases Option.eq_none_or_eq_some v'.ownBlock with h0 | ⟨k,hk⟩
 ·exact .inl h0
 ·refine .inr (fun e=>gz hv ho (by decide) e.symm)
theorem tq {w : World} {e : TI} {v src : Value} {n base : Nat} {xs : List Value} {α : Type} {l : List α} {f : α → Value} (hown : w.ownsRow base e.t e.size v n xs)
  (hs : ((src = .slice none 0 0 ∨ ∃ ad c,src = .slice (some ad) 0 c) ∧ l.length = 0 ∧ l.map f = []) ∨ ∃ b o c,src = .slice (some ⟨b,o,none⟩) l.length c ∧ ca w.cell? b o (l.map f)) (h1 : e.size = 1) (hone : ∀ x,(f x).oneCell' = true)
  (hf : n + l.length ≤ 9223372036854775807) (hb : (n + l.length) * e.bytes ≤ 140737488355328) (hbase : base ≤ w.heap.size) : AppAsk w e v n xs src l.length (l.map f) base:=
 ⟨hown,hs,by simp [h1],fun u hu=>by obtain ⟨x,_,rfl⟩:=List.mem_map.1 hu; exact hone x,hf,hb,hbase⟩
theorem b0 {w : World} {b : Nat} {T : TypeId} {v0 v1 v2 v3 : Value} (h : OwnB w b T [v0,v1,v2,v3]) : ∀ j,j < 4 → (w.cell? ⟨b,0 + j,none⟩).isSome = true ∧ w.frozen? ⟨b,0 + j,none⟩ = false:=fun j hj=>by
 rw [Nat.zero_add];refine ⟨?_,h.free j⟩;have : [v0,v1,v2,v3][j]? = some ([v0,v1,v2,v3][j]):=List.getElem?_eq_getElem (by simpa using hj);rw [h.cell this]; rfl
theorem ee (w : World) (o : Obj) : w.grownBy (w.alloc o) none:=
 World.grownBy_alloc w o none
theorem fe {n : Nat} {w w1 : World} (h : RowKit.Below n w.drew w1) : RowKit.Below n w w1:=⟨h.os,h.tape,h.output,h.size,h.block⟩
set_option maxHeartbeats 1000000 in
theorem copy_r1 {base : Nat} {w : World} {B N : Nat} {L s : Int} {vn ve : Value} {fin : List Bool} (he : Sl w ve fin je) (oke : Ok ve) (hx : Box w B L s vn ve) (hb : base ≤ w.heap.size) (hfin : fin.length ≤ 140737488355328)
  {Q : Exit → Act → World → Prop} {a : Act} {ops : Array Oper} {id : Nat} (hops : Sym.da Tryz.f8.body 1 = some (id,ops))
  (hS : St Tryz.f8.ntmps a [(1,Vp B),(2,Vp N)])
  (hq : ∀ b3 a' w',St Tryz.f8.ntmps a' [(1,Vp B),(2,Vp N),(3,Vp b3)] → RowKit.Below w.heap.size w w' ∧ CopyI base w' b3 L s [] fin → Q .normal a' w') : (Code.region id ops true).wp Tryz.prog Q a w:=by
 cases hops
 refine ep (α:=Nat) 10 (fun b3=>[(1,Vp B),(2,Vp N),(3,Vp b3)]) (fun b3 w'=>RowKit.Below w.heap.size w w' ∧ CopyI base w' b3 L s [] fin) dc hS ?_ hq;have hy : RowKit.Below w.drew.heap.size w.drew w.drew:=RowKit.Below.refl _ _;have hsrc:=fun w1 (h : RowKit.Below w.drew.heap.size w.drew w1)=>uo (f:=Value.bool) (he.keep (w:=w) (show RowKit.Below w.heap.size w w1 from ⟨h.os,h.tape,h.output,h.size,h.block⟩) (fun _ _ h=>h)) oke (fun _ _ h=>h)
 have hb' : base ≤ w.drew.heap.size:=hb;obtain ⟨ae,ce,rfl⟩:=he.len;refine yT 0 af rfl (by kernel_rfl) hy rfl (rfl) ?_;refine yL 1 af rfl (by kernel_rfl) hy rfl rfl (hx.c0) ?_;refine yT 2 af rfl (by kernel_rfl) hy rfl (rfl) ?_;refine yL 3 af rfl (by kernel_rfl) hy rfl rfl (hx.c1) ?_;refine yT 5 af rfl (by kernel_rfl) hy rfl (rfl) ?_;refine yL 6 af rfl (by kernel_rfl) hy rfl rfl (hx.c3) ?_;refine v7 4 9 (by kernel_rfl) (y_op 4 af rfl rfl rfl rfl ?_) (y_op 9 af rfl rfl rfl rfl ?_)
 ·
  refine exI [] (exI #[] (anI (anI rfl rfl) (anI (by decide) (anI (by simp [Instr.fill,madeCells]) ?_))));have hy1:=hy.alloc (Nat.le_refl _) (.cells #[] 4);refine anI (.inr hy1) ?_;have ask:=tq (e:=⟨4,.bool,1,1,.bool false⟩) (jq w.drew base 4 hb') (hsrc _ hy1) rfl (fun _=>rfl) (by omega) (by simp only [Nat.mul_one]; omega) (Nat.le_trans hb' (by simp));refine v7 7 9 (by kernel_rfl) (y_op 7 af rfl rfl rfl rfl ?_) (y_op 9 af rfl rfl rfl rfl ?_)
  ·
   refine exI _ (exI _ (exI _ (exI _ (exI _ (anI (ask) (anI (fun _ h=>h.symm) (anI (by decide) ?_)))))));rintro v' w2 hown hgr - -;have hy2 : RowKit.Below w.drew.heap.size w.drew w2:=a6 hy1 hgr (fun k hk=>by cases hk; exact Nat.le_refl _);rw [Nat.zero_add,List.nil_append] at hown;refine anI (.inr hy2) ?_;obtain ⟨g,n,c,hv⟩ : ∃ g n c,v' = .slice g n c:=by rcases hown.2 with ⟨h,_⟩ | ⟨_,_,_,h,_⟩ <;> exact ⟨_,_,_,h⟩
   subst hv;refine yT 8 af rfl (by kernel_rfl) hy2 rfl (rfl) ?_;refine bo 9 (by kernel_rfl) (y_op 9 af rfl rfl rfl rfl ?_);have hy3:=hy2.alloc hy2.size (.cells #[Vi 0,Vi 0,.slice none 0 0,.slice none 0 0] 25);refine anI (.inr hy3) ?_;refine bo 10 (by kernel_rfl) (ew 10 af rfl rfl rfl ?_);have ho:=OwnB.new w2 [Vi 0,Vi 0,.slice none 0 0,.slice none 0 0] 25;refine anI rfl (anI rfl (anI (b0 ho) (anI (.inl (by kernel_rfl)) ?_)));exact fc _ (by kernel_rfl) ⟨rfl,rfl,rfl,trivial⟩ (ri (w0:=w) (fe hy3) (Nat.le_trans hb hy2.size) hy2.size ho (hown.alloc _))
  ·
   have hy2:=hy1.alloc hy1.size (.cells #[Vi 0,Vi 0,.slice none 0 0,.slice none 0 0] 25);refine anI (.inr hy2) ?_;have ho:=OwnB.new (w.drew.alloc (.cells #[] 4)) [Vi 0,Vi 0,.slice none 0 0,.slice none 0 0] 25;have ask:=tq (e:=⟨4,.bool,1,1,.bool false⟩) ((jq w.drew base 4 hb').alloc (.cells #[Vi 0,Vi 0,.slice none 0 0,.slice none 0 0] 25)) (hsrc _ hy2) rfl (fun _=>rfl) (by omega) (by simp only [Nat.mul_one]; omega) (Nat.le_trans hb' hy2.size);refine bo 7 (by kernel_rfl) (y_op 7 af rfl rfl rfl rfl ?_);refine exI _ (exI _ (exI _ (exI _ (exI _ (anI (ask) (anI (fun _ h=>h.symm) (anI (by decide) ?_)))))));rintro v' w2 hown hgr - -;have hy3 : RowKit.Below w.drew.heap.size w.drew w2:=a6 hy2 hgr (fun k hk=>by cases hk; exact Nat.le_refl _);rw [Nat.zero_add,List.nil_append] at hown;refine anI (.inr hy3) ?_;obtain ⟨g,n,c,hv⟩ : ∃ g n c,v' = .slice g n c:=by rcases hown.2 with ⟨h,_⟩ | ⟨_,_,_,h,_⟩ <;> exact ⟨_,_,_,h⟩
   subst hv;have ho':=ho.kept hgr (gz ((jq w.drew base 4 hb').alloc (.cells #[Vi 0,Vi 0,.slice none 0 0,.slice none 0 0] 25)) ho (by decide));refine yT 8 af rfl (by kernel_rfl) hy3 rfl (rfl) ?_;refine bo 10 (by kernel_rfl) (ew 10 af rfl rfl rfl ?_);refine anI rfl (anI rfl (anI (b0 ho') (anI (.inl (by kernel_rfl)) ?_)));exact fc _ (by kernel_rfl) ⟨rfl,rfl,rfl,trivial⟩ (ri (w0:=w) (fe hy3) (Nat.le_trans hb hy1.size) hy1.size ho' hown)
 ·
  have hy1:=hy.alloc (Nat.le_refl _) (.cells #[Vi 0,Vi 0,.slice none 0 0,.slice none 0 0] 25);refine anI (.inr hy1) ?_;have ho:=OwnB.new w.drew [Vi 0,Vi 0,.slice none 0 0,.slice none 0 0] 25;refine bo 4 (by kernel_rfl) (y_op 4 af rfl rfl rfl rfl ?_);refine exI [] (exI #[] (anI (anI rfl rfl) (anI (by decide) (anI (by simp [Instr.fill,madeCells]) ?_))));have hy2:=hy1.alloc hy1.size (.cells #[] 4);refine anI (.inr hy2) ?_;have hl:=jq (w.drew.alloc (.cells #[Vi 0,Vi 0,.slice none 0 0,.slice none 0 0] 25)) base 4 (Nat.le_trans hb' hy1.size);have ho2 : OwnB _ _ _ _:=ho.kept (row:=none) (ee _ (.cells #[] 4)) (by simp);have ask:=tq (e:=⟨4,.bool,1,1,.bool false⟩) hl (hsrc _ hy2) rfl (fun _=>rfl) (by omega) (by simp only [Nat.mul_one]; omega) (Nat.le_trans (Nat.le_trans hb' hy1.size) (by simp));refine bo 7 (by kernel_rfl) (y_op 7 af rfl rfl rfl rfl ?_);refine exI _ (exI _ (exI _ (exI _ (exI _ (anI (ask) (anI (fun _ h=>h.symm) (anI (by decide) ?_)))))));rintro v' w2 hown hgr - -;have hy3 : RowKit.Below w.drew.heap.size w.drew w2:=a6 hy2 hgr (fun k hk=>by cases hk; exact hy1.size);rw [Nat.zero_add,List.nil_append] at hown;refine anI (.inr hy3) ?_;obtain ⟨g,n,c,hv⟩ : ∃ g n c,v' = .slice g n c:=by rcases hown.2 with ⟨h,_⟩ | ⟨_,_,_,h,_⟩ <;> exact ⟨_,_,_,h⟩
  subst hv;have ho':=ho2.kept hgr (gz hl ho2 (by decide));refine yT 8 af rfl (by kernel_rfl) hy3 rfl (rfl) ?_;refine bo 10 (by kernel_rfl) (ew 10 af rfl rfl rfl ?_);refine anI rfl (anI rfl (anI (b0 ho') (anI (.inl (by kernel_rfl)) ?_)));exact fc _ (by kernel_rfl) ⟨rfl,rfl,rfl,trivial⟩ (ri (w0:=w) (fe hy3) hb (Nat.le_refl _) ho' hown)
theorem uh (g : Option Addr) (n c : Nat) (z : Value) : Instr.fill (fun i=>some (i * 1,1)) (madeCells #[z] 1) [(0,.slice g n c)] = some #[.slice g n c]:=by
 have h : (Value.slice g n c).cells = #[.slice g n c]:=rfl;simp [Instr.fill,madeCells,h,Array.range,Array.foldl];rfl
theorem jv (k : IntKind) (a : Int) (z : Value) : Instr.fill (fun i=>some (i * 1,1)) (madeCells #[z] 1) [(0,.int k a)] = some #[.int k a]:=by
 have h : (Value.int k a).cells = #[.int k a]:=rfl;simp [Instr.fill,madeCells,h,Array.range,Array.foldl];rfl
theorem af0 {w : World} {base e s n : Nat} {v : Value} {xs : List Value} (h : w.ownsRow base e s v n xs) {k : Nat} (hk : w.heap.size ≤ k) : v.ownBlock = none ∨ v.ownBlock ≠ some k:=by
 rcases Option.eq_none_or_eq_some v.ownBlock with h0 | ⟨j,hj⟩
 ·exact .inl h0
 ·refine .inr (fun e=>?_)
  have:=(h.lt j hj).2
  rw [hj] at e;simp only [Option.some.injEq] at e;omega
set_option maxHeartbeats 1000000 in
theorem copy_r5 {base : Nat} {w0 w : World} {B N b3 k : Nat} {L s : Int} {vn ve : Value} {next : List (List Int)} {fin : List Bool} (h0 : RowKit.Below w0.heap.size w0 w) (hb : base = w0.heap.size)
  (hn : Sl w vn next PRow) (hx : Box w B L s vn ve) (hC : CopyI base w b3 L s (next.take k) fin) (hb3 : w0.heap.size ≤ b3) (hk : k < next.length) (hrow : ∀ r ∈ next,r.length * 8 ≤ 140737488355328) (hnx : next.length * 24 ≤ 140737488355328)
  {Q : Exit → Act → World → Prop} {a : Act} {ops : Array Oper} {id : Nat} (hops : Sym.da Tryz.f8.body 5 = some (id,ops))
  (hS : St Tryz.f8.ntmps a [(1,Vp B),(2,Vp N),(3,Vp b3),(4,Vi k)])
  (hq : ∀ a' w',St Tryz.f8.ntmps a' [(1,Vp B),(2,Vp N),(3,Vp b3),(4,Vi k)] → RowKit.Below w0.heap.size w0 w' ∧ CopyI base w' b3 L s (next.take (k + 1)) fin → Q .normal a' w') : (Code.region id ops true).wp Tryz.prog Q a w:=by
 cases hops
 refine d5 10 [(1,Vp B),(2,Vp N),(3,Vp b3),(4,Vi k)] (fun w'=>RowKit.Below w0.heap.size w0 w' ∧ CopyI base w' b3 L s (next.take (k + 1)) fin) dc hS ?_ hq;have hy : RowKit.Below w.drew.heap.size w.drew w.drew:=RowKit.Below.refl _ _;have hbb : w0.heap.size ≤ base:=by omega
 replace hb : base ≤ w0.heap.size:=by omega
 obtain ⟨vn',ve',us,ho,hve,hvn,hlu,hus⟩:=hC.mem;have hbw : w0.heap.size ≤ w.heap.size:=h0.size;obtain ⟨an,bn,on,cn,rfl,ha1,ha2,ha3,ha4⟩:=hn;obtain ⟨u,hu,hpu,oku⟩:=ha4 k hk;have hsrc:=fun w1 (h : RowKit.Below w.drew.heap.size w.drew w1)=>uo (f:=Value.int .i64) (hpu.keep (w:=w) (show RowKit.Below w.heap.size w w1 from ⟨h.os,h.tape,h.output,h.size,h.block⟩) (fun _ _ h=>h)) oku (fun _ _ h=>h.1)
 have hI : ∀ x ∈ next[k],I64 x:=by
  obtain ⟨_,_,_,_,_,_,_,_,h4⟩:=hpu;intro x hx;obtain ⟨i,hi,rfl⟩:=List.getElem_of_mem hx;obtain ⟨_,_,h5⟩:=h4 i hi;exact h5.2
 obtain ⟨ar,cr,rfl⟩:=hpu.len;obtain rfl:=ha1 (by omega);obtain ⟨gn,nn,cc,hvn'⟩ : ∃ g n c,vn' = .slice g n c:=by rcases hvn.2 with ⟨h,_⟩ | ⟨_,_,_,h,_⟩ <;> exact ⟨_,_,_,h⟩
 subst hvn';refine yT 0 af rfl (by kernel_rfl) hy rfl (rfl) ?_;refine yL 1 af rfl (by kernel_rfl) hy rfl rfl (ho.cell (i:=2) rfl) ?_;refine yT 3 af rfl (by kernel_rfl) hy rfl (rfl) ?_;refine yL 4 af rfl (by kernel_rfl) hy rfl rfl (hx.c2) ?_;refine yT 5 af rfl (by kernel_rfl) hy rfl (rfl) ?_;refine yT 6 af rfl (by kernel_rfl) hy rfl (exI _ (anI (rfl) (anI (hk) rfl))) ?_;refine yL 7 af rfl (by kernel_rfl) hy rfl rfl (hu) ?_;refine bo 2 (by kernel_rfl) (y_op 2 af rfl rfl rfl rfl ?_);refine exI [] (exI #[] (anI (anI rfl rfl) (anI (by decide) (anI (by simp [Instr.fill,madeCells]) ?_))));have hy1:=hy.alloc (Nat.le_refl _) (.cells #[] 3);refine anI (.inr hy1) ?_;have hl:=jq w.drew base 3 (Nat.le_trans hb hbw);have h8:=hrow _ (List.getElem_mem hk);have ask:=tq (e:=⟨3,.int .i64,1,8,Vi 0⟩) hl (hsrc _ hy1) rfl (fun _=>rfl) (by omega) (by show (0 + _) * 8 ≤ _; omega) (Nat.le_trans (Nat.le_trans hb hbw) hy1.size);refine bo 8 (by kernel_rfl) (y_op 8 af rfl rfl rfl rfl ?_);refine exI _ (exI _ (exI _ (exI _ (exI _ (anI (ask) (anI (fun _ h=>h.symm) (anI (by decide) ?_)))))));rintro v' w2 hown hgr - -;have hy2 : RowKit.Below w.drew.heap.size w.drew w2:=a6 hy1 hgr (fun k hk=>by cases hk; exact Nat.le_refl _);rw [Nat.zero_add,List.nil_append] at hown;refine anI (.inr hy2) ?_;obtain ⟨g,n,c,hv⟩ : ∃ g n c,v' = .slice g n c:=by rcases hown.2 with ⟨h,_⟩ | ⟨_,_,_,h,_⟩ <;> exact ⟨_,_,_,h⟩
 subst hv;refine bo 9 (by kernel_rfl) (y_op 9 af rfl rfl rfl rfl ?_);refine exI [(0,.slice g n c)] (exI #[.slice g n c] (anI (anI rfl rfl) (anI (by decide) (anI (uh _ _ _ _) ?_))));have hy3:=hy2.alloc hy2.size (.cells #[.slice g n c] 34);refine anI (.inr hy3) ?_;refine bo 10 (by kernel_rfl) (y_op 10 af rfl rfl rfl rfl ?_);have hvn3:=((hvn.drew.alloc (.cells #[] 3)).kept hgr (af0 hvn.drew (Nat.le_refl _))).alloc (.cells #[.slice g n c] 34);have hve3:=((hve.drew.alloc (.cells #[] 3)).kept hgr (af0 hve.drew (Nat.le_refl _))).alloc (.cells #[.slice g n c] 34);have hu3 : ∀ u q xs,w.ownsRow base 3 1 u q xs → ((w2.alloc (.cells #[.slice g n c] 34)).ownsRow base 3 1 u q xs):=fun u q xs h=>((h.drew.alloc (.cells #[] 3)).kept hgr (af0 h.drew (Nat.le_refl _))).alloc (.cells #[.slice g n c] 34);have hown3:=hown.alloc (.cells #[.slice g n c] 34);have hkk : (next.take k).length = k:=by simp; omega
 have ask2 : AppAsk (w2.alloc (.cells #[.slice g n c] 34)) ⟨34,.slice 3,1,24,.slice none 0 0⟩ (.slice gn nn cc) (next.take k).length us (Vs w2.heap.size 1 1) 1 [.slice g n c] base:=
  ⟨hvn3,.inr ⟨_,0,_,rfl,ax rfl,trivial⟩,rfl,(by simp [Value.oneCell']),(by rw [hkk]; omega),(by rw [hkk]; show (k + 1) * 24 ≤ _; omega),Nat.le_trans (Nat.le_trans hb hbw) hy3.size⟩
 refine exI _ (exI _ (exI _ (exI _ (exI _ (anI (ask2) (anI (fun _ h=>h.symm) (anI (by decide) ?_)))))));rintro v' w4 hown4 hgr4 - -;refine anI (.inl (by kernel_rfl)) ?_;refine bo 11 (by kernel_rfl) (y_op 11 af rfl rfl rfl rfl ?_);refine anI (.inl (by kernel_rfl)) ?_;refine bo 12 (by kernel_rfl) (ew 12 af rfl rfl rfl ?_)
 have ho3 : OwnB (w2.alloc (.cells #[.slice g n c] 34)) b3 25 [Vi L,Vi s,.slice gn nn cc,ve']:=by
  have e1 : OwnB (w.drew.alloc (.cells #[] 3)) b3 25 _:=OwnB.kept (w:=w.drew) ho (ee _ _) (by simp);exact (e1.kept hgr (by have:=ho.lt; have hs : w.drew.heap.size = w.heap.size:=rfl; simp only [Value.ownBlock,ne_eq,Option.some.injEq]; omega)).kept (row:=none) (ee _ _) (by simp)
 have ho4:=ho3.kept hgr4 (gz hvn3 ho3 (by decide));have hve4:=hve3.kept hgr4 (jp hvn3 hve3 (by decide));have hu4 : ∀ u q xs,w.ownsRow base 3 1 u q xs → w4.ownsRow base 3 1 u q xs:=fun u q xs h=>(hu3 u q xs h).kept hgr4 (jp hvn3 (hu3 u q xs h) (by decide));have hown4':=hown3.kept hgr4 (jp hvn3 hown3 (by decide));obtain ⟨g4,n4,c4,hv4⟩ : ∃ g n c,v' = .slice g n c:=by rcases hown4.2 with ⟨h,_⟩ | ⟨_,_,_,h,_⟩ <;> exact ⟨_,_,_,h⟩
 subst hv4;refine anI rfl (anI rfl (anI ⟨_,ho4.cell (i:=2) rfl⟩ (anI (ho4.free 2) (anI (.inl (by kernel_rfl)) ?_))));refine iq (by kernel_rfl) ⟨rfl,rfl,rfl,rfl,trivial⟩ (show RowKit.Below w0.heap.size w0 (w4.setCell ⟨b3,2,none⟩ (.slice g4 n4 c4)) ∧ CopyI base (w4.setCell ⟨b3,2,none⟩ (.slice g4 n4 c4)) b3 L s (next.take (k + 1)) fin from ⟨?_,?_⟩)
 ·have e1 : RowKit.Below w0.heap.size w0 (w2.alloc (.cells #[.slice g n c] 34)):=ak h0 (fe hy3);have e2:=a6 e1 hgr4 (fun q hq=>Nat.le_trans hbb (hvn3.lt q hq).1);exact a6 e2 (jc _ b3 2 _) (fun q hq=>by cases hq; exact hb3)
 ·have hg5:=jc w4 b3 2 (.slice g4 n4 c4);have hnb : ∀ {e q : Nat} {v : Value} {xs : List Value},w4.ownsRow base e 1 v q xs → e ≠ 25 → v.ownBlock = none ∨ v.ownBlock ≠ some b3:=fun h he=>.inr (fun hh=>gz h ho4 he hh.symm);refine ⟨hC.b,_,_,us ++ [.slice g n c],ho4.set 2 _,hve4.kept hg5 (hnb hve4 (by decide)),?_,?_,?_⟩
  ·have:=hown4.kept hg5 (hnb hown4 (by decide))
   rw [hkk] at this
   simpa [hkk,List.length_take,Nat.min_eq_left (show k + 1 ≤ next.length by omega)] using this
  ·simp only [List.length_append,hlu,List.length_take,List.length_cons,List.length_nil]; omega
  ·intro i hi;have hi' : i < k + 1:=by simp only [List.length_take] at hi; omega
   rcases Nat.lt_or_ge i k with hlt | hge
   ·obtain ⟨u,hu1,hu2,hu3⟩:=hus i (by omega);refine ⟨u,?_,?_,?_⟩
    ·rw [List.getElem?_append_left (by omega)]; exact hu1
    ·have e1:=(hu4 _ _ _ hu2).kept hg5 (hnb (hu4 _ _ _ hu2) (by decide))
     simpa using e1
    ·simpa using hu3
   ·obtain rfl : i = k:=by omega
    refine ⟨.slice g n c,?_,?_,?_⟩
    ·rw [List.getElem?_append_right (by omega)]; simp [hlu,hkk]
    ·have e1:=hown4'.kept hg5 (hnb hown4' (by decide))
     simpa using e1
    ·simpa using hI
theorem ez {w : World} {base base' e s n : Nat} {v : Value} {xs : List Value} (h : w.ownsRow base e s v n xs) (hb : base' ≤ base) : w.ownsRow base' e s v n xs:=
 ⟨h.1,h.2.imp id (fun ⟨g,c,k,h1,h2,h3⟩=>⟨g,c,k,h1,Nat.le_trans hb h2,h3⟩)⟩
theorem df {w : World} {base e s n : Nat} {v : Value} {xs : List Value} (h : w.ownsRow base e s v n xs) : ∃ g m c,v = .slice g m c:=by
 rcases h.2 with ⟨h,_⟩ | ⟨_,_,_,h,_⟩ <;> exact ⟨_,_,_,h⟩
structure OwnM (base : Nat) (w : World) (next : List (List Int)) (fin : List Bool) (vn ve : Value) : Prop where
 e : w.ownsRow base 4 1 ve fin.length (fin.map .bool)
 n : ∃ us,us.length = next.length ∧ w.ownsRow base 34 1 vn next.length us ∧ ∀ i (h : i < next.length),∃ u,us[i]? = some u ∧ w.ownsRow base 3 1 u next[i].length (next[i].map (Value.int .i64)) ∧ ∀ x ∈ next[i],I64 x
theorem OwnM.ma {base : Nat} {w : World} {L s : Int} {next : List (List Int)} {fin : List Bool} {vn ve : Value} (h : OwnM base w next fin vn ve) (hL : I64 L) (hs : I64 s) : Ma w L s next fin vn ve:=by
 obtain ⟨us,hl,hn,hu⟩:=h.n;have he:=jn (P:=je) (l:=fin) h.e rfl (fun i hi=>⟨_,by simp [hi],rfl⟩)
 have hn':=jn (P:=PRow) (l:=next) hn rfl (fun i hi=>by
  obtain ⟨u,hu1,hu2,hu3⟩:=hu i hi;refine ⟨u,hu1,?_⟩;exact jn (P:=PInt) hu2 rfl (fun j hj=>⟨_,by simp [hj],rfl,hu3 _ (List.getElem_mem hj)⟩))
 exact ⟨hn'.1,he.1,hL,hs,hn'.2,he.2⟩
theorem OwnB.keep {w w' : World} {n b : Nat} {T : TypeId} {vs : List Value} (h : OwnB w b T vs) (hb : RowKit.Below n w w') (hn : b < n) : OwnB w' b T vs:=(hb.block b hn).trans h
theorem ajt (L s : Int) (vn ve : Value) (next : List (List Int)) (fin : List Bool) (w : World) (hm : Ma w L s next fin vn ve) (hfin : fin.length ≤ 140737488355328) (hrow : ∀ r ∈ next,r.length * 8 ≤ 140737488355328) (hnx : next.length * 24 ≤ 140737488355328) :
  Calls Tryz.prog 8 #[.agg #[Vi L,Vi s,vn,ve]] w fun e w'=>∃ vn' ve',e = .returned (.agg #[Vi L,Vi s,vn',ve']) ∧ OwnM w.heap.size w' next fin vn' ve' ∧ RowKit.Below w.heap.size w w':=by
 refine Sym.c8 (args:=[.agg #[Vi L,Vi s,vn,ve]]) Tryz.func8 rfl rfl rfl (fun a0 hS0=>?_);obtain ⟨N,hN⟩ : ∃ N,N = (w.alloc (.cells #[Vi L,Vi s,vn,ve] 25)).heap.size:=⟨_,rfl⟩;refine wp_seq (ai [(1,Vp w.heap.size),(2,Vp N)] (· = (w.alloc (.cells #[Vi L,Vi s,vn,ve] 25)).alloc (.cells #[Vi 0,Vi 0,.slice none 0 0,.slice none 0 0] 25)) af hS0 ?_ (fun a wc hS hw=>?_))
 ·subst hN;refine zB rfl ?_;refine zB rfl ?_;exact aj ⟨⟨rfl,rfl,trivial⟩,rfl⟩
 have hB1:=ao w (.cells #[Vi L,Vi s,vn,ve] 25);have hB2:=ao (w.alloc (.cells #[Vi L,Vi s,vn,ve] 25)) (.cells #[Vi 0,Vi 0,.slice none 0 0,.slice none 0 0] 25);rw [← hw] at hB2;have hB:=ak hB1 hB2;have hx : Box wc w.heap.size L s vn ve:=(Box.new w L s vn ve 25).keep hB2;have hoN : OwnB wc N 25 [Vi 0,Vi 0,.slice none 0 0,.slice none 0 0]:=by rw [hw,hN]; exact OwnB.new _ _ _
 have hNw : w.heap.size ≤ N:=by rw [hN]; exact (ao w _).size
 clear hw hB1 hB2 hN;replace hm:=hm.keep hB;refine wp_seq (copy_r1 (base:=wc.heap.size) hm.e hm.oke hx (Nat.le_refl _) hfin (by rfl) hS ?_);rintro b3 a w2 hS ⟨hK,hC⟩;refine wp_seq (wp_seq (ai [(1,Vp w.heap.size),(2,Vp N),(3,Vp b3),(4,Vi 0)] (· = w2) af hS ?_ (fun a w3 hS hw=>?_)))
 ·repeat refine zX rfl ?_
  exact aj ⟨⟨rfl,rfl,rfl,rfl,trivial⟩,rfl⟩
 subst hw
 refine wp_block (cz hS (fun g E wr=>∃ k : Nat,k ≤ next.length ∧ g = next.length - k ∧ E = [(1,Vp w.heap.size),(2,Vp N),(3,Vp b3),(4,Vi k)] ∧ RowKit.Below wc.heap.size wc wr ∧ CopyI wc.heap.size wr b3 L s (next.take k) fin)
  next.length ⟨0,Nat.zero_le _,rfl,rfl,hK,by rw [List.take_zero]; exact hC⟩ ?_)
 clear hK hC;rintro g E wr a1 ⟨k,hk,rfl,rfl,hK,hC⟩ hS;replace hx:=hx.keep hK;replace hm:=hm.keep hK;obtain ⟨an,cn,hvn⟩:=hm.n.len;subst hvn;obtain ⟨hb,hhb⟩ : ∃ b,decide ((k : Int) < next.length) = b:=⟨_,rfl⟩;refine wp_seq (wp_seq (ai [(1,Vp w.heap.size),(2,Vp N),(3,Vp b3),(4,Vi k),(18,.bool hb)] (· = wr) af hS ?_ (fun a w5 hS hw=>?_)))
 ·repeat refine zX rfl ?_
  refine zL rfl (hx.c2) ?_
  repeat refine zX rfl ?_
  refine zC rfl (hhb) ?_
  repeat refine zX rfl ?_
  exact aj ⟨⟨rfl,rfl,rfl,rfl,rfl,trivial⟩,rfl⟩
 subst hw;refine cond hS rfl (fun hT=>?_) (fun hF=>?_)
 case refine_2=>
  refine wp_exit ?_
  repeat first|refine bf ?_|refine ba ?_|refine az rfl ?_
  obtain ⟨vn',ve',us,ho,hve,hvn,hlu,hus⟩:=hC.mem;have hoN':=hoN.keep hK hoN.lt
  obtain rfl : k = next.length:=by
   subst hF;rw [decide_eq_false_iff_not] at hhb;omega
  rw [List.take_length] at hC hvn hlu hus;refine wp_seq (ai [(2,Vp N)] (· = w5.setCells N 0 [Vi L,Vi s,vn',ve']) af hS ?_ (fun a w6 hS hw=>?_))
  ·refine zA ([Vi L,Vi s,vn',ve']) rfl rfl (⟨ho.cell (i:=0) rfl,ho.cell (i:=1) rfl,ho.cell (i:=2) rfl,ho.cell (i:=3) rfl,trivial⟩) ?_;refine cj rfl rfl (anI rfl (anI ?_ (anI (b0 hoN') ?_)))
   ·obtain ⟨_,_,_,rfl⟩:=df hve;obtain ⟨_,_,_,rfl⟩:=df hvn;rfl
   exact aj ⟨⟨rfl,trivial⟩,rfl⟩
  subst hw;have hg:=bz N [Vi L,Vi s,vn',ve'] 0 w5;have hnb : ∀ {e q : Nat} {v : Value} {xs : List Value},w5.ownsRow wc.heap.size e 1 v q xs → e ≠ 25 → v.ownBlock = none ∨ v.ownBlock ≠ some N:=fun h he=>.inr (fun hh=>gz h hoN' he hh.symm)
  have hm5 : OwnM w.heap.size (w5.setCells N 0 [Vi L,Vi s,vn',ve']) next fin vn' ve':=
   ⟨ez (hve.kept hg (hnb hve (by decide))) hB.size,us,hlu,ez (hvn.kept hg (hnb hvn (by decide))) hB.size,fun i hi=>by
    obtain ⟨u,h1,h2,h3⟩:=hus i hi;exact ⟨u,h1,ez (h2.kept hg (hnb h2 (by decide))) hB.size,h3⟩⟩
  have hoF : OwnB (w5.setCells N 0 [Vi L,Vi s,vn',ve']) N 25 [Vi L,Vi s,vn',ve']:=hoN'.sets rfl;refine wp_ret ?_
  repeat first|refine a8 ?_|refine am ?_
  refine wl af hS rfl rfl rfl rfl (o:=0) (vs:=[Vi L,Vi s,vn',ve']) ⟨hoF.cell (i:=0) rfl,hoF.cell (i:=1) rfl,hoF.cell (i:=2) rfl,hoF.cell (i:=3) rfl,trivial⟩ rfl ⟨vn',ve',rfl,hm5,?_⟩;exact a6 (ak hB hK) hg (fun q hq=>by cases hq; exact hNw)
 subst hT;rw [decide_eq_true_eq] at hhb;have hlt : k < next.length:=by omega
 refine wp_skip ?_;refine wp_seq (wp_block ?_);refine copy_r5 hK rfl hm.n hx hC hC.b hlt hrow hnx (by rfl) (hS.sub ⟨rfl,rfl,rfl,rfl,trivial⟩) ?_;rintro a w6 hS ⟨hK,hC⟩;refine ay ?_;refine b4 ?_;refine ai [(1,Vp w.heap.size),(2,Vp N),(3,Vp b3),(4,Vi (k + 1 : Nat))] (· = w6) af hS ?_ (fun a w8 hS hw8=>?_)
 ·repeat refine zX rfl ?_
  refine zN rfl (ck (by omega)) ?_
  repeat refine zX rfl ?_
  exact aj ⟨⟨rfl,rfl,rfl,rfl,trivial⟩,rfl⟩
 subst hw8;exact ⟨next.length - (k + 1),_,by omega,⟨k + 1,by omega,rfl,rfl,hK,hC⟩,hS⟩
end
end Go.Proofs.YtndldmojkpjgoaaGreatDoor
