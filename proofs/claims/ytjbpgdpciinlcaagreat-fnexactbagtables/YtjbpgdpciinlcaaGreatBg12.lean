import Derived.RangeFuncBound
import Derived.RangeFuncCalls
import Derived.RangeFuncLeaves
import Derived.RangeFuncNested
import Derived.Test.YtjbpgdpciinlcaaGreatBg11
set_option maxHeartbeats 40000000
set_option maxRecDepth 1000000
namespace Go.Proofs.YtjbpgdpciinlcaaGreat
open Go.RowKit
variable {a b:Int}{ls:List (List Int)}{p:List Int}{B B' g j k l:Nat}{o:Obj}{vb vp:Value}{X Y w:World}
structure KT(B:Nat)(W W':World):Prop where
 bel:Below B W W'
 cel:∀(k:Nat) (cur:Array Value) (ty:TypeId) (z:Nat×Nat),W.heap[k]?=some (Obj.cells cur ty z)->ty≠207->ty≠4->W'.heap[k]?=W.heap[k]?
theorem KT.refl(B:Nat)(W:World):KT B W W:=⟨bI _ _,fun _ _ _ _ _ _ _=>rfl⟩
theorem KT.trans{Z:World}(h:KT B X Y)(k:KT B Y Z):KT B X Z:=
 ⟨h.bel.trans k.bel,fun i cur ty z hi h1 h2=>(k.cel i cur ty z ((h.cel i cur ty z hi h1 h2).trans hi) h1 h2).trans (h.cel i cur ty z hi h1 h2)⟩
theorem KT.mono(h:KT B X Y)(hB:B'<=B):KT B' X Y:=⟨h.bel.mono hB,h.cel⟩
theorem qR{W:World}(h:W.heap[k]?=some o):k < W.heap.size:=(Array.getElem?_eq_some_iff.1 h).1
theorem KT.of_below(h:Bl X Y)(hB:B<=X.heap.size):KT B X Y:=⟨h.mono hB,fun k _ _ _ hk _ _=>h.block k (qR hk)⟩
theorem KT.put(o':Obj)(hl:B<=l)(h:X.heap[l]?=some o)(hc:o.isCells=false):KT B X (X.putObj l o'):=by
 refine⟨⟨rfl,rfl,rfl,by simp,fun k hk=>World.putObj_heap_other (by omega)⟩,fun k cur ty z hk _ _=>World.putObj_heap_other fun e=>?_⟩;subst e;rw[h]at hk;cases hk
 cases hc
theorem KT.set{b o:Nat}{cur:Array Value}{ty:TypeId}{z:Nat×Nat}(v:Value)(hb:B<=b)(h:X.heap[b]?=some (Obj.cells cur ty z))(ht:ty=207∨ty=4):KT B X (X.setCell ⟨b,o,none⟩ v):=by
 refine⟨(bI _ _).setCell hb _,fun k cur' ty' z' hk h1 h2=>bD _ _ _ _ fun e=>?_⟩;have e':k=b:=e;subst e';rw[h]at hk;cases hk
 rcases ht with rfl|rfl
 ·exact h1 rfl
 ·exact h2 rfl
def Gives{α β:Type}(P:Program)(gf:Nat)(lb:Array Value)(encs:β->Array Value)(Kp Kx:Nat->World->World->Prop)(Pre:List α->α->β->World->World->Prop)(xs:List α)(w:World):Prop:=
 ∀(l:Nat) (J:List α->World->Prop) (Jx:World->Prop) (W:World),Bl w W->l < W.heap.size->w.heap.size<=l->
  (∀s X Y,J s X->KT W.heap.size X Y->J s Y)->(∀X Y,Jx X->KT W.heap.size X Y->Jx Y)->
  (∀pre x b X Y,J pre X->KT W.heap.size X Y->Pre pre x b X Y->YieldAt Fence.wide 0 P l (encs b) Y fun e Z=>(e=.returned (.bool true)/\J (pre++[x]) Z/\Kp l Y Z)∨(e=.returned (.bool false)/\Jx Z/\Kx l Y Z))->
  J [] W->Calls P gf (#[.func (.yield l) #[] #[]]++lb) W fun e W'=>(∃v,e=.returned v)/\(J xs W'∨Jx W')
def qEF{α:Type}(B:Nat)(Kp Kx:World->World->Prop)(I:List α->World->Prop)(Ix:Code->World->Prop)(ys:List α)(W:World):Exit->Act->World->Prop
 | .normal,_,W'=>KeepsFrom B W W'/\Kp W W'/\I ys W'
 | .ret,_,W'=>KeepsFrom B W W'/\Kx W W'/\Ix .ret W'
 | .exit id,_,W'=>KeepsFrom B W W'/\Kx W W'/\Ix (.exit id) W'
 |_,_,_=>False
theorem qDI(k:Nat):Fence.wide.depth.isSome=true->1<=k:=fun h=>by cases h
theorem ke{α β:Type}{P:Program}{g:Operand}{ps:Array Tmp}{assign body:Code}{Q:Exit->Act->World->Prop}{a:Act}{gf:Nat}{lb:Array Value}
 (hg:a.eval g=.func (.func gf) #[] lb) (eg:∀args W,(callFunc gf args).run P W=.ok (.enter gf args) W)
 {encs:β->Array Value} {Kp Kx:Nat->World->World->Prop} {Pre:List α->α->β->World->World->Prop} {xs:List α} (hseq:Gives P gf lb encs Kp Kx Pre xs w) (hps:∀b,(encs b).size=ps.size)
 (hKt:∀{l:Nat} {X Y Z:World},Kp l X Y->Kp l Y Z->Kp l X Z) (hKb:∀(l:Nat) (W:World) (o o':Obj),w.heap.size<=l->W.heap[l]?=some o->o.isCells=false->Kp l W (W.putObj l o'))
 (hKx:∀{l:Nat} {X Y Z V:World},Kp l X Y->Kx l Y Z->Kp l Z V->Kx l X V)
 (I:List α->World->Prop) (Ix:Code->World->Prop) (hI:∀s X Y,I s X->KT w.heap.size X Y->I s Y) (hIx:∀c X Y,Ix c X->KT w.heap.size X Y->Ix c Y) (h0:I [] w)
 (Ax:Nat->List α->α->β->Act->World->Prop) (hAx:∀l pre x b a' W o o',Ax l pre x b a' W->w.heap.size<=l->W.heap[l]?=some o->o.isCells=false->Ax l pre x b a' (W.putObj l o'))
 (hassign:∀(l:Nat) (pre:List α) (x:α) (b:β) (X Y:World) (K:Act->World->Prop),w.heap.size<=l->I pre X->KT w.heap.size X Y->Pre pre x b X Y->(∃r,Y.heap[l]?=some (.loop r))->
  (∀a' W',KeepsFrom w.heap.size Y W'->Kp l Y W'->Ax l pre x b a' W'->K a' W')->
  assign.wpIn (Fence.wide.inRound l) 0 P (Exit.then K (fun _ _ _=>False)) { tmps:=(ps.zip (encs b)).foldl (fun t (p,v)=>t.setIfInBounds p v) a.tmps,defers:=[] } Y)
 (hbody:∀(l:Nat) (pre:List α) (x:α) (b:β) (a':Act) (W:World),w.heap.size<=l->(∃r,W.heap[l]?=some (.loop r))->Ax l pre x b a' W->body.wpIn (Fence.wide.inRound l) 0 P (qEF w.heap.size (Kp l) (Kx l) I Ix (pre++[x]) W) a' W)
 (hdone:∀(D:Nat) (W:World),w.heap.size<=D->I xs W->W.heap[D]?=some (.deferred (some []))->Q .normal { a with defers:={ target:=.collected D,args:=#[] }::a.defers } W)
 (hstop:∀(D:Nat) (c:Code) (W:World),w.heap.size<=D->Ix c W->W.heap[D]?=some (.deferred (some []))->c.wpIn Fence.wide 0 P Q { a with defers:={ target:=.collected D,args:=#[] }::a.defers } W):
 (Code.rangeFunc g ps assign body).wpIn Fence.wide 0 P Q a w:=by
 refine wpIn_rangeFunc fun fn hfn=>?_;obtain⟨rec,hrec⟩:∃rec:LoopState->Option Code->Loop,rec=fun st pe=>{ state:=st,pending:=pe,fn,tmps:=a.tmps,params:=ps,assign,body,defers:=w.heap.size }:=⟨_,rfl⟩;obtain⟨W1,hW1⟩:∃W1,W1=(w.alloc (.deferred (some []))).alloc (.loop (rec .ready none)):=⟨_,rfl⟩;have hsz:W1.heap.size=w.heap.size+2:=by rw[hW1];simp
 have hB1:Bl w W1:=by rw[hW1];exact((bI _ _).alloc (nR _) _).alloc (by simp) _
 have hL1:W1.heap[w.heap.size+1]?=some (.loop (rec .ready none)):=by
  rw[hW1];have:=World.alloc_heap_new (w.alloc (.deferred (some []))) (.loop (rec .ready none));rwa[World.size_alloc]at this
 have hD1:W1.heap[w.heap.size]?=some (.deferred (some [])):=by
  rw[hW1];exact(Below.heap_alloc _ _ _ (by simp)).trans (World.alloc_heap_new w _)
 obtain⟨l,hl⟩:∃l,l=w.heap.size+1:=⟨_,rfl⟩;rw[<-hl]at hL1
 have two:∀{X Y:World} {r:Loop},KT W1.heap.size X Y->X.heap[l]?=some (.loop r)->X.heap[w.heap.size]?=some (.deferred (some []))->Y.heap[l]?=some (.loop r)/\Y.heap[w.heap.size]?=some (.deferred (some [])):=fun {X Y r} hk h1 h2=>
  ⟨(hk.bel.block _ (by omega)).trans h1,(hk.bel.block _ (by omega)).trans h2⟩
 have kmo:∀{X Y:World},KT W1.heap.size X Y->KT w.heap.size X Y:=fun h=>h.mono (by omega)
 have hcall:=hseq l (fun pre W=>I pre W/\W.heap[l]?=some (.loop (rec .ready none))/\W.heap[w.heap.size]?=some (.deferred (some [])))
  (fun W=>∃c,Ix c W/\W.heap[l]?=some (.loop (rec .done (some c)))/\W.heap[w.heap.size]?=some (.deferred (some []))) W1 hB1 (by omega) (by omega)
  (fun s X Y hs hk=>⟨hI s X Y hs.1 (kmo hk),two hk hs.2.1 hs.2.2⟩)
  (fun X Y hs hk=>by
   obtain⟨c,hc,h1,h2⟩:=hs;exact⟨c,hIx c X Y hc (kmo hk),two hk h1 h2⟩)
  (fun pre x b X Y hs hk hp=>by
   obtain⟨hi,h1,h2⟩:=hs;obtain⟨g1,g2⟩:=two hk h1 h2;have hy:=run_yield (P:=P) (args:=encs b) g1 (by rw[hrec];exact hps b);rw[hrec]at hy;refine⟨fn,_,assign,body,hy,roundIn_of_wpIn hfn (hassign l pre x b X Y _ (by omega) hi (kmo hk) hp ⟨_,g1⟩ ?_)⟩;clear hy;intro a' W' hkf hkp hax;have f1:=hkf.same _ _ (by omega) g1 rfl;have f2:=hkf.same _ _ (nR _) g2 rfl;have hlt:=qR f1;refine⟨_,run_beginRound f1 (by rw[hrec]),?_⟩;have b1:(W'.putObj l (.loop { rec .ready none with state:=.busy })).heap[l]?=some (.loop { rec .ready none with state:=.busy }):=World.putObj_heap_same hlt;have b2:(W'.putObj l (.loop { rec .ready none with state:=.busy })).heap[w.heap.size]?=some (.deferred (some [])):=(World.putObj_heap_other (by omega)).trans f2;have hk2:=hKt hkp (hKb l W' _ (.loop { rec .ready none with state:=.busy }) (by omega) f1 rfl);refine wpIn_mono (hbody l pre x b a' _ (by omega) ⟨_,b1⟩ (hAx l pre x b a' W' _ _ hax (by omega) f1 rfl)) ?_
   have fin:∀(jump:Option Code) (W3:World),KeepsFrom w.heap.size (W'.putObj l (.loop { rec .ready none with state:=.busy })) W3->
    (Instr.endRound l jump).run P W3=.ok (.bool jump.isNone) (W3.putObj l (.loop (rec (if jump.isNone then .ready else .done) jump)))/\W3.heap[l]?=some (.loop { rec .ready none with state:=.busy })/\
    (W3.putObj l (.loop (rec (if jump.isNone then .ready else .done) jump))).heap[l]?=some (.loop (rec (if jump.isNone then .ready else .done) jump))/\
    (W3.putObj l (.loop (rec (if jump.isNone then .ready else .done) jump))).heap[w.heap.size]?=some (.deferred (some [])):=fun jump W3 hk3=>by
    have c1:=hk3.same _ _ (by omega) b1 rfl;have c2:=hk3.same _ _ (nR _) b2 rfl;have hr:=run_endRound (P:=P) jump c1;rw[hrec]at hr ⊢;exact⟨hr,by rw[hrec]at c1;exact c1,World.putObj_heap_same (qR c1),(World.putObj_heap_other (by omega)).trans c2⟩
   rintro e a3 W3 hq;cases e with
   |normal=>
    obtain⟨q1,q2,q3⟩:=hq;obtain⟨hr,c1,c2,c3⟩:=fin none W3 q1;exact⟨_,_,hr,Or.inl ⟨rfl,⟨hI _ _ _ q3 (KT.put _ (by omega) c1 rfl),c2,c3⟩,hKt (hKt hk2 q2) (hKb l _ _ _ (by omega) c1 rfl)⟩⟩
   |ret=>
    obtain⟨q1,q2,q3⟩:=hq;obtain⟨hr,c1,c2,c3⟩:=fin (some .ret) W3 q1;exact⟨_,_,hr,Or.inr ⟨rfl,⟨.ret,hIx _ _ _ q3 (KT.put _ (by omega) c1 rfl),c2,c3⟩,hKx hk2 q2 (hKb l _ _ _ (by omega) c1 rfl)⟩⟩
   |exit id=>
    obtain⟨q1,q2,q3⟩:=hq;obtain⟨hr,c1,c2,c3⟩:=fin (some (.exit id)) W3 q1;exact⟨_,_,hr,Or.inr ⟨rfl,⟨.exit id,hIx _ _ _ q3 (KT.put _ (by omega) c1 rfl),c2,c3⟩,hKx hk2 q2 (hKb l _ _ _ (by omega) c1 rfl)⟩⟩
   |goto t=>exact hq.elim
   |panic ch=>exact hq.elim
   |outgrown=>exact hq.elim)
  ⟨hI [] w W1 h0 (KT.of_below hB1 (nR _)),hL1,hD1⟩
 refine⟨l,[{ target:=.collected w.heap.size,args:=#[] }],W1,{ target:=.fn (.func gf) lb,args:=#[.func (.yield l) #[] #[]] },W1,gf,#[.func (.yield l) #[] #[]]++lb,W1,?_,?_,?_,?_,qDI _,?_⟩
 ·have:=run_enterLoop_outer (P:=P) (w:=w) fn a.tmps ps assign body;rw[hl,hW1,hrec];exact this
 ·simp only[resolve,hg];simp[go_sem]
 ·intro f' _;trivial
 ·simp[invoke,go_sem,eg]
 ·refine callsIn_wide.2 (hcall.mono ?_);rintro e W2 ⟨⟨v,rfl⟩,⟨hi,h1,h2⟩|⟨c,hi,h1,h2⟩⟩
  ·exact⟨none,_,by have:=run_endLoop (P:=P) h1 (by rw[hrec];simp);rw[hrec]at this;exact this,hdone _ _ (nR _) (hI _ _ _ hi (KT.put _ (by omega) h1 rfl)) ((World.putObj_heap_other (by omega)).trans h2)⟩
  ·exact⟨some c,_,by have:=run_endLoop (P:=P) h1 (by rw[hrec];simp);rw[hrec]at this;exact this,hstop _ c _ (nR _) (hIx _ _ _ hi (KT.put _ (by omega) h1 rfl)) ((World.putObj_heap_other (by omega)).trans h2)⟩
structure Sd where
 H:Nat->Bool
 rs:List (List Int)
 N:List Int->List Int
def Sd.D(s:Sd)(p:List Int):Prop:=p=[]∨∃r∈s.rs,p <+:r
structure Sd.Ok(s:Sd):Prop where
 tm:TM s.rs s.D s.N
def prt(H:Nat->Bool)(p:List Int):List Int:=((List.range p.length).filter H).map fun i=>p.getD i 0
theorem Qv(H:Nat->Bool)(p:List Int)(v:Int):prt H (p++[v])=prt H p++(if H p.length then [v] else []):=by
 unfold prt;rw[lA,lS,List.range_succ,List.filter_append,mA];congr 1
 ·refine List.map_congr_left fun i hi=>?_;have hi2:=List.mem_range.1 ((List.mem_filter.1 hi).1);rw[gD,aL hi2,<-gD]
 ·by_cases h:H p.length
  ·rw[if_pos h,List.filter_cons,if_pos h];simp[List.getD_eq_getElem?_getD]
  ·rw[if_neg h,List.filter_cons,if_neg h];rfl
def Hld(sds:List Sd)(p:List Int):Prop:=∀s∈sds,s.D (prt s.H p)
def qB9(sds:List Sd)(p:List Int)(v:Int):Bool:=sds.all fun s=>!s.H p.length||decide (v∈s.N (prt s.H p))
theorem jd(sds:List Sd)(p:List Int)(v:Int):qB9 sds p v=true↔∀s∈sds,s.H p.length=true->v∈s.N (prt s.H p):=by
 unfold qB9;rw[aT];refine⟨fun h s hs hH=>?_,fun h s hs=>?_⟩
 ·have:=h s hs;rw[hH]at this;simpa using this
 ·cases hH:s.H p.length
  ·rfl
  ·simpa using h s hs hH
theorem Qw:∀{a b:List Int},a.Pairwise (·< ·)->b.Pairwise (·< ·)->(∀v,v∈a↔v∈b)->a=b
 |[],[],_,_,_=>rfl
 |[],y::b,_,_,h=>by have:=(h y).2 List.mem_cons_self;cases this
 |x::a,[],_,_,h=>by have:=(h x).1 List.mem_cons_self;cases this
 |x::a,y::b,ha,hb,h=>by
  rw[List.pairwise_cons]at ha hb
  have hxy:x=y:=by
   have h1:=(h x).1 List.mem_cons_self;have h2:=(h y).2 List.mem_cons_self;rw[List.mem_cons]at h1 h2;rcases h1 with h1|h1
   ·exact h1
   ·rcases h2 with h2|h2
    ·exact h2.symm
    ·have:=hb.1 x h1;have:=ha.1 y h2;omega
  subst hxy;rw[Qw ha.2 hb.2 fun v=>?_];have:=h v;rw[List.mem_cons,List.mem_cons]at this;constructor
  ·intro hv;rcases this.1 (Or.inr hv)with rfl|h1
   ·have:=ha.1 v hv;omega
   ·exact h1
  ·intro hv;rcases this.2 (Or.inr hv)with rfl|h1
   ·have:=hb.1 v hv;omega
   ·exact h1
def vF(sds:List Sd)(g:Sd)(p:List Int):List Int:=(g.N (prt g.H p)).filter fun v=>qB9 sds p v
theorem Kw{sds:List Sd}(hok:∀s∈sds,s.Ok){g f:Sd}(hg:g∈sds)(hf:f∈sds)(hp:Hld sds p)(h1:g.H p.length=true)(h2:f.H p.length=true):vF sds g p=vF sds f p:=by
 refine Qw ((((hok g hg).tm.asc _ (hp g hg))).filter _) ((((hok f hf).tm.asc _ (hp f hf))).filter _) fun v=>?_;unfold vF;rw[List.mem_filter,List.mem_filter];constructor
 ·rintro⟨-,h⟩;exact⟨(jd sds p v).1 h f hf h2,h⟩
 ·rintro⟨-,h⟩;exact⟨(jd sds p v).1 h g hg h1,h⟩
def vV(sds:List Sd)(p:List Int):List Int:=
 match sds.find? fun s=>s.H p.length with
 |some f=>vF sds f p
 |none=>[]
theorem XT{sds:List Sd}(hok:∀s∈sds,s.Ok){g:Sd}(hg:g∈sds)(hp:Hld sds p)(h1:g.H p.length=true):vV sds p=vF sds g p:=by
 unfold vV;cases hf:sds.find? (fun s=>s.H p.length)with
 |none=>
  rw[List.find?_eq_none]at hf;exact absurd h1 (hf g hg)
 |some f=>
  exact Kw hok (List.mem_of_find?_eq_some hf) hg hp (by have:=List.find?_some hf;exact this) h1
theorem Hld.snoc{sds:List Sd}(hok:∀s∈sds,s.Ok)(hp:Hld sds p){v:Int}(hv:v∈vV sds p):Hld sds (p++[v]):=fun s hs=>by
 rw[Qv];cases hH:s.H p.length
 ·rw[if_neg (by decide),List.append_nil];exact hp s hs
 ·rw[if_pos rfl];rw[XT hok hs hp hH]at hv;unfold vF at hv;exact((hok s hs).tm.mem _ (hp s hs) v).1 ((List.mem_filter.1 hv).1)
theorem Vy{sds:List Sd}(hok:∀s∈sds,s.Ok)(hp:Hld sds p):∀j,∀q∈yz (vV sds) p j,Hld sds q
 |0,q,h=>by simp[yz]at h;rw[h];exact hp
 |j+1,q,h=>by
  simp only[yz,List.mem_flatMap,List.mem_map]at h;obtain⟨r,hr,v,hv,rfl⟩:=h;exact(Vy hok hp j r hr).snoc hok hv
structure JX where
 h:Nat
 r:Nat
 v:Nat
 n0:Nat
 nT:Nat
 H:Nat->Nat->Bool
 D:Nat->List Int->Prop
 N:Nat->List Int->List Int
 f:Nat->List Int->Nat
 g0:Nat->List Int->Value
 g1:Nat->List Int->Value
 hv:Value
 uh:List Value
 hav:List (List Int)
def RB(x:JX)(W:World)(k:Nat):Prop:=∃o n c,W.cell? ⟨x.r,0,none⟩=some (.slice (some ⟨k,o,none⟩) n c)
def Mb(x:JX)(W:World)(k:Nat):Prop:=k=x.h∨k=x.r∨k=x.v∨RB x W k
def TyR(x:JX)(W:World):Prop:=∀k,RB x W k->∃cur z,W.heap[k]?=some (Obj.cells cur 24 z)
structure KpS(x:JX)(S:Nat->Prop)(W W':World):Prop where
 os:W'.os=W.os
 tape:W'.tape=W.tape
 output:W'.output=W.output
 size:W.heap.size<=W'.heap.size
 same:∀(k:Nat) (o:Obj),W.heap[k]?=some o->(o.isCells=true∨¬S k)->¬Mb x W k->W'.heap[k]?=some o
 fresh:∀k,RB x W' k->RB x W k∨W.heap.size<=k
 typ:TyR x W->TyR x W'
section
variable {x:JX} {S:Nat->Prop} {X Y Z:World}
theorem RB.eq(h:Y.heap[x.r]?=X.heap[x.r]?)(k:Nat):RB x Y k↔RB x X k:=by
 unfold RB;have e:Y.cell? ⟨x.r,0,none⟩=X.cell? ⟨x.r,0,none⟩:=bE (w:=X) (a:=⟨x.r,0,none⟩) h;rw[e]
theorem KpS.refl(x:JX)(S:Nat->Prop)(X:World):KpS x S X X:=⟨rfl,rfl,rfl,nR _,fun _ _ h _ _=>h,fun _ h=>Or.inl h,fun h=>h⟩
theorem KpS.trans(h:KpS x S X Y)(k:KpS x S Y Z):KpS x S X Z:=by
 refine⟨k.os.trans h.os,k.tape.trans h.tape,k.output.trans h.output,bK h.size k.size,fun i o hi hs hm=>?_,fun i hi=>?_,fun ht=>k.typ (h.typ ht)⟩
 ·refine k.same i o (h.same i o hi hs hm) hs fun hm2=>?_;rcases hm2 with e|e|e|e
  ·exact hm (Or.inl e)
  ·exact hm (Or.inr (Or.inl e))
  ·exact hm (Or.inr (Or.inr (Or.inl e)))
  ·rcases h.fresh i e with e|e
   ·exact hm (Or.inr (Or.inr (Or.inr e)))
   ·have:=qR hi;omega
 ·rcases k.fresh i hi with e|e
  ·exact h.fresh i e
  ·exact Or.inr (bK h.size e)
theorem KpS.sub{S':Nat->Prop}(h:KpS x S X Y)(hs:∀k,S k->S' k):KpS x S' X Y:=
 ⟨h.os,h.tape,h.output,h.size,fun k o hk hc hm=>h.same k o hk (hc.imp id fun hn h1=>hn (hs k h1)) hm,h.fresh,h.typ⟩
theorem KpS.kt(h:KpS x S X Y)(k:KT X.heap.size Y Z)(hr:x.r < X.heap.size):KpS x S X Z:=by
 have hb:=k.bel;have he:Z.heap[x.r]?=Y.heap[x.r]?:=hb.block _ hr;refine⟨hb.os.trans h.os,hb.tape.trans h.tape,hb.output.trans h.output,bK h.size hb.size,fun i o hi hs hm=>(hb.block i (qR hi)).trans (h.same i o hi hs hm),fun i hi=>h.fresh i ((RB.eq he i).1 hi),fun ht i hi=>?_⟩;obtain⟨cur,z,hc⟩:=h.typ ht i ((RB.eq he i).1 hi);exact⟨cur,z,(k.cel i cur _ z hc (by decide) (by decide)).trans hc⟩
theorem KpS.put{o':Obj}(hs:S l)(hl:X.heap[l]?=some o)(hc:o.isCells=false)(hr:x.r≠l):KpS x S X (X.putObj l o'):=by
 have he:(X.putObj l o').heap[x.r]?=X.heap[x.r]?:=World.putObj_heap_other hr;refine⟨rfl,rfl,rfl,by simp,fun k o2 hk hcs _=>(World.putObj_heap_other fun e=>?_).trans hk,fun k hk=>Or.inl ((RB.eq he k).1 hk),fun ht k hk=>?_⟩
 ·subst e;rw[hl]at hk;cases hk
  rcases hcs with h1|h1
  ·rw[hc]at h1;cases h1
  ·exact h1 hs
 ·obtain⟨cur,z,h1⟩:=ht k ((RB.eq he k).1 hk);refine⟨cur,z,(World.putObj_heap_other fun e=>?_).trans h1⟩;subst e;rw[hl]at h1;cases h1
  cases hc
theorem KpS.nr(h:KpS x S X Y)(hk:k < X.heap.size)(hn:¬RB x X k):¬RB x Y k:=fun h1=>by
 rcases h.fresh k h1 with h2|h2
 ·exact hn h2
 ·omega
theorem qEB(ht:TyR x X)(he:Y.heap[x.r]?=X.heap[x.r]?)(hk:X.heap.size<=k):¬RB x Y k:=fun h1=>by
 obtain⟨cur,z,hc⟩:=ht k ((RB.eq he k).1 h1);have:=qR hc;omega
end
structure Sb(x:JX)(W W':World):Prop where
 size:W.heap.size<=W'.heap.size
 same:∀(k:Nat) (cur:Array Value) (ty:TypeId) (z:Nat×Nat),x.n0<=k->W.heap[k]?=some (Obj.cells cur ty z)->ty≠207->ty≠4->(ty≠24∨¬RB x W k)->W'.heap[k]?=W.heap[k]?
structure JX.Ok(x:JX):Prop where
 h:x.h < x.n0
 r:x.r < x.n0
 v:x.v < x.n0
section
variable {x:JX} {S:Nat->Prop} {X Y Z:World}
theorem KT.sb(h:KT x.n0 X Y):Sb x X Y:=⟨h.bel.size,fun k cur ty z _ hk h1 h2 _=>h.cel k cur ty z hk h1 h2⟩
theorem KpS.not(hx:x.Ok)(ht:TyR x X){cur:Array Value}{ty:TypeId}{z:Nat×Nat}(hk:x.n0<=k)(hc:X.heap[k]?=some (Obj.cells cur ty z))(hn:ty≠24∨¬RB x X k):¬Mb x X k:=fun hm=>by
 have h1:=hx.h;have h2:=hx.r;have h3:=hx.v;rcases hm with e|e|e|e
 ·omega
 ·omega
 ·omega
 ·rcases hn with hn|hn
  ·obtain⟨cur',z',h4⟩:=ht k e;rw[hc]at h4;cases h4
   exact hn rfl
  ·exact hn e
theorem KpS.sb(h:KpS x S X Y)(hx:x.Ok)(ht:TyR x X):Sb x X Y:=
 ⟨h.size,fun k _ _ _ hk hc _ _ hn=>(h.same k _ hc (Or.inl rfl) (KpS.not hx ht hk hc hn)).trans hc.symm⟩
theorem jE{s n:Nat}{e:TypeId}{v:Value}{xs:List Value}(h:X.ownsRow B e s v n xs)(hs:Sb x X Y)(hB:x.n0<=B)(h1:e≠207)(h2:e≠4)(h3:e≠24∨∀k,v.ownBlock=some k->¬RB x X k):Y.ownsRow B e s v n xs:=
 qC h fun g hg=>by
  obtain⟨cur,hc⟩:=qY h hg;exact hs.same g cur e _ (bK hB (h.lt g hg).1) hc h1 h2 (h3.imp id fun h4=>h4 g hg)
theorem TR.sb{D:List Int->Prop}{N0 N1:List Int->List Int}{f:List Int->Nat}{g0 g1:List Int->Value}(h:TR X B D N0 N1 f g0 g1)(hs:Sb x X Y)(hB:x.n0<=B):TR Y B D N0 N1 f g0 g1:=
 ⟨fun p hp=>(hs.same _ _ _ _ (bK hB (h.low p hp)) (h.blk p hp) (by decide) (by decide) (Or.inl (by decide))).trans (h.blk p hp),h.low,fun p hp=>jE (h.o0 p hp) hs hB (by decide) (by decide) (Or.inl (by decide)),fun p hp=>jE (h.o1 p hp) hs hB (by decide) (by decide) (Or.inl (by decide)),h.inj,h.a0,h.a1⟩
theorem TR.base{D:List Int->Prop}{N0 N1:List Int->List Int}{f:List Int->Nat}{g0 g1:List Int->Value}(h:TR X B D N0 N1 f g0 g1)(hB:B'<=B):TR X B' D N0 N1 f g0 g1:=
 ⟨h.blk,fun p hp=>bK hB (h.low p hp),fun p hp=>qF (h.o0 p hp) hB,fun p hp=>qF (h.o1 p hp) hB,h.inj,h.a0,h.a1⟩
end
structure Dat(x:JX)(W:World):Prop where
 ty:TyR x W
 tr:∀t,t < x.nT->TR W x.n0 (x.D t) (x.N t) (x.N t) (x.f t) (x.g0 t) (x.g1 t)
 hq:RQ W x.n0 x.hv x.uh x.hav
 nr:∀k,x.hv.ownBlock=some k->¬RB x W k
section
variable {x:JX} {S:Nat->Prop} {X Y Z:World}
theorem Dat.sb(h:Dat x X)(hs:Sb x X Y)(ht:TyR x Y)(hn:∀k,k < X.heap.size->¬RB x X k->¬RB x Y k):Dat x Y:=by
 refine⟨ht,fun t htt=>(h.tr t htt).sb hs (nR _),⟨jE h.hq.own hs (nR _) (by decide) (by decide) (Or.inr h.nr),h.hq.len,fun i hi=>jE (h.hq.each i hi) hs (nR _) (by decide) (by decide) (Or.inl (by decide)),h.hq.ap⟩,fun k hk=>hn k (h.hq.own.lt k hk).2 (h.nr k hk)⟩
theorem TyR.kt(h:TyR x X)(hk:KT x.n0 X Y)(hx:x.Ok):TyR x Y:=fun k hr=>by
 obtain⟨cur,z,hc⟩:=h k ((RB.eq (hk.bel.block _ hx.r) k).1 hr);exact⟨cur,z,(hk.cel k cur _ z hc (by decide) (by decide)).trans hc⟩
theorem Dat.kt(h:Dat x X)(hk:KT x.n0 X Y)(hx:x.Ok):Dat x Y:=h.sb hk.sb (h.ty.kt hk hx) fun k _ hn h1=>hn ((RB.eq (hk.bel.block _ hx.r) k).1 h1)
theorem Dat.kp(h:Dat x X)(hk:KpS x S X Y)(hx:x.Ok):Dat x Y:=h.sb (hk.sb hx h.ty) (hk.typ h.ty) fun _ hl hn=>hk.nr hl hn
end
def JX.bel(x:JX)(p:List Int):List Value:=(List.range x.nT).map fun t=>.pointer (some ⟨x.f t (prt (x.H t) p),0,none⟩)
theorem JX.bel_len(x:JX)(p:List Int):(x.bel p).length=x.nT:=by simp[JX.bel]
structure Brn(x:JX)(B:Nat)(W:World)(vp vb:Value)(p:List Int):Prop where
 pre:W.ownsRow B 3 1 vp p.length (p.map (Value.int .i64))
 bel:W.ownsRow B 137 1 vb x.nT (x.bel p)
section
variable {x:JX} {S:Nat->Prop} {X Y Z:World}
theorem Brn.sb(h:Brn x B X vp vb p)(hs:Sb x X Y)(hB:x.n0<=B):Brn x B Y vp vb p:=
 ⟨jE h.pre hs hB (by decide) (by decide) (Or.inl (by decide)),jE h.bel hs hB (by decide) (by decide) (Or.inl (by decide))⟩
theorem Brn.below(h:Brn x B X vp vb p)(hs:Bl X Y):Brn x B Y vp vb p:=⟨qB h.pre hs,qB h.bel hs⟩
theorem Brn.base(h:Brn x B X vp vb p)(hB:B'<=B):Brn x B' X vp vb p:=⟨qF h.pre hB,qF h.bel hB⟩
end
theorem uJ(x y:List Int)(l:List (List Int)):cpt (x::y::l)=if x=y then cpt (y::l) else x::cpt (y::l):=by rw[cpt]
theorem Ze(x:List Int):cpt [x]=[x]:=by rw[cpt]
theorem jV:∀(l:List (List Int)) (y z:List Int),cpt (l++[y,z])=if y=z then cpt (l++[y]) else cpt (l++[y])++[z]
 |[],y,z=>by
  show cpt [y,z]=if y=z then cpt [y] else cpt [y]++[z]
  rw[uJ,Ze,Ze];by_cases h:y=z
  ·rw[if_pos h,if_pos h,h]
  ·rw[if_neg h,if_neg h];rfl
 |[x],y,z=>by
  have ih:cpt [y,z]=if y=z then cpt [y] else cpt [y]++[z]:=jV [] y z
  show cpt (x::y::[z])=if y=z then cpt [x,y] else cpt [x,y]++[z]
  rw[uJ x y [z],ih,uJ x y []];by_cases h1:x=y
  ·rw[if_pos h1,if_pos h1]
  ·rw[if_neg h1,if_neg h1];by_cases h2:y=z
   ·rw[if_pos h2,if_pos h2]
   ·rw[if_neg h2,if_neg h2];rfl
 |x::a::l,y,z=>by
  have ih:cpt (a::(l++[y,z]))=if y=z then cpt (a::(l++[y])) else cpt (a::(l++[y]))++[z]:=jV (a::l) y z
  show cpt (x::a::(l++[y,z]))=if y=z then cpt (x::a::(l++[y])) else cpt (x::a::(l++[y]))++[z]
  rw[uJ,ih,uJ];by_cases h1:x=a
  ·rw[if_pos h1,if_pos h1]
  ·rw[if_neg h1,if_neg h1];by_cases h2:y=z
   ·rw[if_pos h2,if_pos h2]
   ·rw[if_neg h2,if_neg h2];rfl
theorem Qq(hj:j+1 < ls.length):ls.take (j+2)=ls.take j++[ls.getD j [],ls.getD (j+1) []]/\ls.take (j+1)=ls.take j++[ls.getD j []]:=by
 have e1:ls.getD j []=ls[j]:=by rw[gD,gE (by omega)];rfl
 have e2:ls.getD (j+1) []=ls[j+1]:=by rw[gD,gE hj];rfl
 rw[e1,e2];have h1:ls.take (j+1)=ls.take j++[ls[j]]:=(List.take_append_getElem (by omega)).symm;have h2:ls.take (j+2)=ls.take (j+1)++[ls[j+1]]:=(List.take_append_getElem hj).symm;exact⟨by rw[h2,h1,List.append_assoc];rfl,h1⟩
theorem Jp(hj:j+1 < ls.length)(h:ls.getD j []=ls.getD (j+1) []):cpt (ls.take (j+2))=cpt (ls.take (j+1)):=by
 obtain⟨a,b⟩:=Qq hj;rw[a,b,jV,if_pos h]
theorem VY(hj:j+1 < ls.length)(h:¬ls.getD j []=ls.getD (j+1) []):cpt (ls.take (j+2))=cpt (ls.take (j+1))++[ls.getD (j+1) []]:=by
 obtain⟨a,b⟩:=Qq hj;rw[a,b,jV,if_neg h]
theorem XP:∀j,j < ls.length->(∀i,i < j->¬ls.getD i []=ls.getD (i+1) [])->cpt (ls.take (j+1))=ls.take (j+1)
 |0,h,_=>by
  match ls,h with
  |x::l,_=>rfl
 |j+1,h,hne=>by
  rw[VY h (hne j (by omega)),XP j (by omega) (fun i hi=>hne i (by omega))];obtain⟨a,b⟩:=Qq h;rw[a,b,List.append_assoc];rfl
def Two(w:World)(g:Nat)(x y:Int):Prop:=w.cell? ⟨g,0,none⟩=some (.int .i64 x)/\w.cell? ⟨g,1,none⟩=some (.int .i64 y)/\w.frozen? ⟨g,0,none⟩=false/\w.frozen? ⟨g,1,none⟩=false
theorem Two.below{w':World}{x y:Int}(h:Two w g x y)(hg:g < w.heap.size)(hb:Bl w w'):Two w' g x y:=
 ⟨(hb.cell (p:=⟨g,0,none⟩) hg).trans h.1,(hb.cell (p:=⟨g,1,none⟩) hg).trans h.2.1,(World.frozen?_of_block (w:=w) (a:=⟨g,0,none⟩) (hb.block g hg)).trans h.2.2.1,(World.frozen?_of_block (w:=w) (a:=⟨g,1,none⟩) (hb.block g hg)).trans h.2.2.2⟩
theorem Two.set(h:Two w g a b)(x y:Int):Two ((w.setCell ⟨g,0,none⟩ (.int .i64 x)).setCell ⟨g,1,none⟩ (.int .i64 y)) g x y:=by
 have n1:∀v,(w.setCell ⟨g,0,none⟩ v).cell? ⟨g,1,none⟩=some (.int .i64 b):=fun v=>(bC _ _ _ _ (by simp)).trans h.2.1;refine⟨(bC _ _ _ _ (by simp)).trans (bF _ _ _ h.1),bF _ _ _ (n1 _),?_,?_⟩
 ·rw[fS,fS];exact h.2.2.1
 ·rw[fS,fS];exact h.2.2.2
theorem Two.other{g':Nat}(h:Two w g a b)(hne:g≠g')(x y:Value):Two ((w.setCell ⟨g',0,none⟩ x).setCell ⟨g',1,none⟩ y) g a b:=by
 have ne:∀i j:Nat,(⟨g,i,none⟩:Addr)≠⟨g',j,none⟩:=fun i j e=>by simp only[Addr.mk.injEq]at e;exact hne e.1
 refine⟨?_,?_,?_,?_⟩
 ·rw[bC _ _ _ _ (by first|exact ne _ _|exact(ne _ _).symm),bC _ _ _ _ (by first|exact ne _ _|exact(ne _ _).symm)];exact h.1
 ·rw[bC _ _ _ _ (by first|exact ne _ _|exact(ne _ _).symm),bC _ _ _ _ (by first|exact ne _ _|exact(ne _ _).symm)];exact h.2.1
 ·rw[fS,fS];exact h.2.2.1
 ·rw[fS,fS];exact h.2.2.2
theorem JY(w:World)(v:Value)(l:List (Int×Int))(h:IR w v l)(hl:l.length<=1000)(s:Nat->Int×Int)(h0:s 0=(0,1))
 (hs:∀k w,k < l.length->Cl 120 #[.agg #[.int .i64 (s k).1,.int .i64 (s k).2],.agg #[.int .i64 (l.getD k (0,0)).1,.int .i64 (l.getD k (0,0)).2]] w fun e w'=>e=.returned (.agg #[.int .i64 (s (k+1)).1,.int .i64 (s (k+1)).2])/\Bl w w'):
 Cl 98 #[v] w fun e w'=>e=.returned (.agg #[.int .i64 (s l.length).1,.int .i64 (s l.length).2])/\Bl w w':=by
 obtain⟨a,cap,rfl,hc⟩:=h;obtain⟨n,hn⟩:∃n,n=l.length:=⟨_,rfl⟩;rw[<-hn]at hc hl hs ⊢;have HC:=hid hc;have HS:=hid hs;have H0:=hid h0;clear hc hs hn h0;go_enter Tryz.func98,Tryz.ntmps98
 go_wp2;have hbb:Bl w ((w.alloc (.cells #[.int .i64 0,.int .i64 0] 37)).alloc (.cells #[.int .i64 0,.int .i64 1] 37)):=((bI _ _).alloc (nR _) _).alloc (by simp) _
 have t1:Two ((w.alloc (.cells #[.int .i64 0,.int .i64 0] 37)).alloc (.cells #[.int .i64 0,.int .i64 1] 37)) w.heap.size 0 0:=
  ⟨by rw[World.cell?_alloc_past _ _ _ (by simp),cA _ _ _ _ rfl];rfl,by rw[World.cell?_alloc_past _ _ _ (by simp),cA _ _ _ _ rfl];rfl,by rw[World.frozen?_alloc_past _ _ _ (by simp),World.frozen?_alloc_at _ _ _ _ rfl],by rw[World.frozen?_alloc_past _ _ _ (by simp),World.frozen?_alloc_at _ _ _ _ rfl]⟩
 have t2:Two ((w.alloc (.cells #[.int .i64 0,.int .i64 0] 37)).alloc (.cells #[.int .i64 0,.int .i64 1] 37)) (w.heap.size+1) 0 1:=
  ⟨by rw[cA _ _ _ _ (by simp)];rfl,by rw[cA _ _ _ _ (by simp)];rfl,World.frozen?_alloc_at _ _ _ _ (by simp),World.frozen?_alloc_at _ _ _ _ (by simp)⟩
 have T1:=hid t1;have T2:=hid t2;have HBB:=hid hbb;clear t1 t2 hbb;go_loopw [9] (fun t wr=>∃k:Nat,k<=n/\t=.int .i64 k/\w.heap.size+1 < wr.heap.size/\Hid (Bl w wr/\Two wr w.heap.size 0 0/\Two wr (w.heap.size+1) (s k).1 (s k).2)) (fun t _=>n - (intOf t).toNat)
 case atStart=>exact⟨0,nZ _,rfl,by simp,hid ⟨HBB.out,T1.out,by rw[H0.out];exact T2.out⟩⟩
 case round=>
  clear T1 T2 HBB;obtain⟨k,hk,rfl,hsz,hH⟩:=hrel;by_cases hkn:k < n
  ·have i1:(k:Int) < (n:Int):=by omega
   rcases HC.out with h0|⟨b,o,rfl,hcell⟩
   ·omega
   ·obtain⟨hnx,hT1,hT2⟩:=hH.out;obtain⟨d1,d2⟩:=hcell k hkn;have c1:=(hnx.cell (p:=⟨b,o+k*2,none⟩) (bL w _ d1)).trans d1;have c2:=(hnx.cell (p:=⟨b,o+k*2+1,none⟩) (bL w _ d2)).trans d2;have HK:Hid (∀w,_):=hid (fun w=>HS.out k w hkn);have hbA:∀ob,Bl wr (wr.alloc ob):=fun ob=>(bI _ _).alloc (nR _) ob;have c3:=hT2.1;have c4:=hT2.2.1;have HH:=hid (And.intro hnx (And.intro hT1 hT2));have HBA:=hid hbA;clear hcell d1 d2 hnx hT1 hT2 hH hbA;generalize (l.getD k (0,0)).1=x at *;generalize (l.getD k (0,0)).2=y at *;obtain⟨x2,hx2⟩:∃t,t=(s (k+1)).1:=⟨_,rfl⟩;obtain⟨y2,hy2⟩:∃t,t=(s (k+1)).2:=⟨_,rfl⟩;rw[<-hx2,<-hy2]at HK;have HX:=hid hx2;have HY:=hid hy2;clear hx2 hy2;go_wp2_with (first|(go_at_call 120;refine(HK.out _).mono ?_;rintro e w2 ⟨rfl,hb2⟩;have hb3:=bt (HBA.out _) hb2;have q1:=HH.out.2.1.below (by omega) hb3;have q2:=HH.out.2.2.below (by omega) hb3;have q3:=bt HH.out.1 hb3;have q4:=hb3.size;have e1:=q2.1;have e2:=q2.2.1;have e3:=q2.2.2.1;have e4:=q2.2.2.2;have HQ:=hid (And.intro q1 (And.intro q2 q3));clear hb2 hb3 q1 q2 q3))
    go_roundw
    case rel=>exact⟨k+1,by omega,by go_num,by simp[World.setCell];omega,hid ⟨(HQ.out.2.2.setCell (by show w.heap.size<=w.heap.size+1;omega) _).setCell (by show w.heap.size<=w.heap.size+1;omega) _,HQ.out.1.other (by omega) _ _,by rw[<-HX.out,<-HY.out];exact HQ.out.2.1.set _ _⟩⟩
    case measure=>simp[intOf];omega
  ·obtain rfl:k=n:=by omega
   have i1:¬((k:Int) < (k:Int)):=by omega
   obtain⟨hnx,hT1,hT2⟩:=hH.out;have c1:=hT1.1;have c2:=hT1.2.1;have c3:=hT1.2.2.1;have c4:=hT1.2.2.2;have e1:=hT2.1;have e2:=hT2.2.1;obtain⟨x,hx⟩:∃t,t=(s k).1:=⟨_,rfl⟩;obtain⟨y,hy⟩:∃t,t=(s k).2:=⟨_,rfl⟩;rw[<-hx]at e1;rw[<-hy]at e2;have HX:=hid hx;have HY:=hid hy;have HQ:=hid (And.intro hnx (hT1.set x y));clear hH hT1 hT2 hx hy hnx;go_wp2;have r1:=HQ.out.2.1;have r2:=HQ.out.2.2.1;refine bodyPost_ret (v:=.agg #[.int .i64 x,.int .i64 y]) (by simp[results,Tryz.results98,go_sem,r1,r2]) rfl ⟨by rw[HX.out,HY.out],(HQ.out.1.setCell (nR _) _).setCell (nR _) _⟩
theorem JZ(w:World)(v:Value)(l:List (Int×Int))(h:IR w v l)(hl:l.length<=1000)(s:Nat->Int×Int)(h0:s 0=(0,1))
 (hs:∀k w,k < l.length->Cl 135 #[.agg #[.int .i64 (s k).1,.int .i64 (s k).2],.agg #[.int .i64 (l.getD k (0,0)).1,.int .i64 (l.getD k (0,0)).2]] w fun e w'=>e=.returned (.agg #[.int .i64 (s (k+1)).1,.int .i64 (s (k+1)).2])/\Bl w w'):
 Cl 112 #[v] w fun e w'=>e=.returned (.agg #[.int .i64 (s l.length).1,.int .i64 (s l.length).2])/\Bl w w':=by
 obtain⟨a,cap,rfl,hc⟩:=h;obtain⟨n,hn⟩:∃n,n=l.length:=⟨_,rfl⟩;rw[<-hn]at hc hl hs ⊢;have HC:=hid hc;have HS:=hid hs;have H0:=hid h0;clear hc hs hn h0;go_enter Tryz.func112,Tryz.ntmps112
 go_wp2;have hbb:Bl w ((w.alloc (.cells #[.int .i64 0,.int .i64 0] 37)).alloc (.cells #[.int .i64 0,.int .i64 1] 37)):=((bI _ _).alloc (nR _) _).alloc (by simp) _
 have t1:Two ((w.alloc (.cells #[.int .i64 0,.int .i64 0] 37)).alloc (.cells #[.int .i64 0,.int .i64 1] 37)) w.heap.size 0 0:=
  ⟨by rw[World.cell?_alloc_past _ _ _ (by simp),cA _ _ _ _ rfl];rfl,by rw[World.cell?_alloc_past _ _ _ (by simp),cA _ _ _ _ rfl];rfl,by rw[World.frozen?_alloc_past _ _ _ (by simp),World.frozen?_alloc_at _ _ _ _ rfl],by rw[World.frozen?_alloc_past _ _ _ (by simp),World.frozen?_alloc_at _ _ _ _ rfl]⟩
 have t2:Two ((w.alloc (.cells #[.int .i64 0,.int .i64 0] 37)).alloc (.cells #[.int .i64 0,.int .i64 1] 37)) (w.heap.size+1) 0 1:=
  ⟨by rw[cA _ _ _ _ (by simp)];rfl,by rw[cA _ _ _ _ (by simp)];rfl,World.frozen?_alloc_at _ _ _ _ (by simp),World.frozen?_alloc_at _ _ _ _ (by simp)⟩
 have T1:=hid t1;have T2:=hid t2;have HBB:=hid hbb;clear t1 t2 hbb;go_loopw [9] (fun t wr=>∃k:Nat,k<=n/\t=.int .i64 k/\w.heap.size+1 < wr.heap.size/\Hid (Bl w wr/\Two wr w.heap.size 0 0/\Two wr (w.heap.size+1) (s k).1 (s k).2)) (fun t _=>n - (intOf t).toNat)
 case atStart=>exact⟨0,nZ _,rfl,by simp,hid ⟨HBB.out,T1.out,by rw[H0.out];exact T2.out⟩⟩
 case round=>
  clear T1 T2 HBB;obtain⟨k,hk,rfl,hsz,hH⟩:=hrel;by_cases hkn:k < n
  ·have i1:(k:Int) < (n:Int):=by omega
   rcases HC.out with h0|⟨b,o,rfl,hcell⟩
   ·omega
   ·obtain⟨hnx,hT1,hT2⟩:=hH.out;obtain⟨d1,d2⟩:=hcell k hkn;have c1:=(hnx.cell (p:=⟨b,o+k*2,none⟩) (bL w _ d1)).trans d1;have c2:=(hnx.cell (p:=⟨b,o+k*2+1,none⟩) (bL w _ d2)).trans d2;have HK:Hid (∀w,_):=hid (fun w=>HS.out k w hkn);have hbA:∀ob,Bl wr (wr.alloc ob):=fun ob=>(bI _ _).alloc (nR _) ob;have c3:=hT2.1;have c4:=hT2.2.1;have HH:=hid (And.intro hnx (And.intro hT1 hT2));have HBA:=hid hbA;clear hcell d1 d2 hnx hT1 hT2 hH hbA;generalize (l.getD k (0,0)).1=x at *;generalize (l.getD k (0,0)).2=y at *;obtain⟨x2,hx2⟩:∃t,t=(s (k+1)).1:=⟨_,rfl⟩;obtain⟨y2,hy2⟩:∃t,t=(s (k+1)).2:=⟨_,rfl⟩;rw[<-hx2,<-hy2]at HK;have HX:=hid hx2;have HY:=hid hy2;clear hx2 hy2;go_wp2_with (first|(go_at_call 135;refine(HK.out _).mono ?_;rintro e w2 ⟨rfl,hb2⟩;have hb3:=bt (HBA.out _) hb2;have q1:=HH.out.2.1.below (by omega) hb3;have q2:=HH.out.2.2.below (by omega) hb3;have q3:=bt HH.out.1 hb3;have q4:=hb3.size;have e1:=q2.1;have e2:=q2.2.1;have e3:=q2.2.2.1;have e4:=q2.2.2.2;have HQ:=hid (And.intro q1 (And.intro q2 q3));clear hb2 hb3 q1 q2 q3))
    go_roundw
    case rel=>exact⟨k+1,by omega,by go_num,by simp[World.setCell];omega,hid ⟨(HQ.out.2.2.setCell (by show w.heap.size<=w.heap.size+1;omega) _).setCell (by show w.heap.size<=w.heap.size+1;omega) _,HQ.out.1.other (by omega) _ _,by rw[<-HX.out,<-HY.out];exact HQ.out.2.1.set _ _⟩⟩
    case measure=>simp[intOf];omega
  ·obtain rfl:k=n:=by omega
   have i1:¬((k:Int) < (k:Int)):=by omega
   obtain⟨hnx,hT1,hT2⟩:=hH.out;have c1:=hT1.1;have c2:=hT1.2.1;have c3:=hT1.2.2.1;have c4:=hT1.2.2.2;have e1:=hT2.1;have e2:=hT2.2.1;obtain⟨x,hx⟩:∃t,t=(s k).1:=⟨_,rfl⟩;obtain⟨y,hy⟩:∃t,t=(s k).2:=⟨_,rfl⟩;rw[<-hx]at e1;rw[<-hy]at e2;have HX:=hid hx;have HY:=hid hy;have HQ:=hid (And.intro hnx (hT1.set x y));clear hH hT1 hT2 hx hy hnx;go_wp2;have r1:=HQ.out.2.1;have r2:=HQ.out.2.2.1;refine bodyPost_ret (v:=.agg #[.int .i64 x,.int .i64 y]) (by simp[results,Tryz.results112,go_sem,r1,r2]) rfl ⟨by rw[HX.out,HY.out],(HQ.out.1.setCell (nR _) _).setCell (nR _) _⟩
end Go.Proofs.YtjbpgdpciinlcaaGreat
