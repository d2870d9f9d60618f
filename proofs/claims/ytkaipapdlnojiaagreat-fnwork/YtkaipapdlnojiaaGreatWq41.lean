import Derived.Laws.MakeOwn
import Derived.RangeFuncBound
import Derived.RangeFuncCalls
import Derived.RangeFuncLeaves
import Derived.RangeFuncNested
import Derived.Test.YtkaipapdlnojiaaGreatWq35
import Derived.Test.YtkaipapdlnojiaaGreatWq40
set_option maxHeartbeats 40000000
set_option maxRecDepth 1000000
namespace Go.Proofs.YtkaipapdlnojiaaGreat
open Go.RowKit
variable {p vs:List Int}{xs:List Value}{B B' c g i k l n s:Nat}{o:Obj}{e:TypeId}{vb vp x y:Value}{A W W' X Y w w3:World}
structure KT(B:Nat)(W W':World):Prop where
 bel:Below B W W'
 cel:∀(k:Nat) (cur:Array Value) (ty:TypeId) (z:Nat×Nat),W.heap[k]?=some (Obj.cells cur ty z)->ty≠182->ty≠4->W'.heap[k]?=W.heap[k]?
theorem KT.refl(B:Nat)(W:World):KT B W W:=⟨bM _ _,λ_ _ _ _ _ _ _=>rfl⟩
theorem KT.trans{Z:World}(h:KT B X Y)(k:KT B Y Z):KT B X Z:=
 ⟨h.bel.trans k.bel,λi cur ty z hi I K=>(k.cel i cur ty z ((h.cel i cur ty z hi I K).trans hi) I K).trans (h.cel i cur ty z hi I K)⟩
theorem KT.mono(h:KT B X Y)(hB:B'<=B):KT B' X Y:=⟨h.bel.mono hB,h.cel⟩
theorem qP(h:W.heap[k]?=some o):k < W.heap.size:=(Array.getElem?_eq_some_iff.1 h).1
theorem KT.of_below(h:Bl X Y)(hB:B<=X.heap.size):KT B X Y:=⟨h.mono hB,λk _ _ _ I _ _=>h.block k (qP I)⟩
theorem KT.put(K:Obj)(hl:B<=l)(h:X.heap[l]?=some o)(M:o.isCells=false):KT B X (X.putObj l K):=by
 refine⟨⟨rfl,rfl,rfl,Ss,λk I=>World.putObj_heap_other Oo⟩,λk cur ty z I _ _=>World.putObj_heap_other λe=>?_⟩;subst e;rw[h]at I;cases I
 cases M
theorem KT.set{b o:Nat}{cur:Array Value}{ty:TypeId}{z:Nat×Nat}(v:Value)(hb:B<=b)(h:X.heap[b]?=some (Obj.cells cur ty z))(M:ty=182∨ty=4):KT B X (X.setCell ⟨b,o,none⟩ v):=by
 refine⟨(bM _ _).setCell hb _,λk I O z' K U V=>bE _ _ _ _ λe=>?_⟩;have e':k=b:=e;subst e';rw[h]at K;cases K
 rcases M with rfl|rfl
 ·exact U rfl
 ·exact V rfl
def Gives{α β:Type}(P:Program)(gf:Nat)(lb:Array Value)(encs:β->Array Value)(Kp Kx:Nat->World->World->Prop)(Pre:List α->α->β->World->World->Prop)(xs:List α)(w:World):Prop:=
 ∀(l:Nat) (J:List α->World->Prop) (Jx:World->Prop) (W:World),Bl w W->l < W.heap.size->w.heap.size<=l->
  (∀s X Y,J s X->KT W.heap.size X Y->J s Y)->(∀X Y,Jx X->KT W.heap.size X Y->Jx Y)->
  (∀pre x b X Y,J pre X->KT W.heap.size X Y->Pre pre x b X Y->YieldAt Fence.wide 0 P l (encs b) Y λe Z=>(e=.returned (.bool true)/\J (pre++[x]) Z/\Kp l Y Z)∨(e=.returned (.bool false)/\Jx Z/\Kx l Y Z))->
  J [] W->Calls P gf (#[.func (.yield l) #[] #[]]++lb) W λe W'=>(∃v,e=.returned v)/\(J xs W'∨Jx W')
def qFm{α:Type}(B:Nat)(Kp Kx:World->World->Prop)(I:List α->World->Prop)(Ix:Code->World->Prop)(ys:List α)(W:World):Exit->Act->World->Prop
 | .normal,_,W'=>KeepsFrom B W W'/\Kp W W'/\I ys W'
 | .ret,_,W'=>KeepsFrom B W W'/\Kx W W'/\Ix .ret W'
 | .exit id,_,W'=>KeepsFrom B W W'/\Kx W W'/\Ix (.exit id) W'
 |_,_,_=>False
theorem qEg(k:Nat):Fence.wide.depth.isSome=true->1<=k:=λh=>by cases h
theorem QM{α β:Type}{P:Program}{g:Operand}{ps:Array Tmp}{assign body:Code}{Q:Exit->Act->World->Prop}{a:Act}{gf:Nat}{lb:Array Value}
 (hg:a.eval g=.func (.func gf) #[] lb) (eg:∀args W,(callFunc gf args).run P W=.ok (.enter gf args) W)
 {O:β->Array Value} {Kp Kx:Nat->World->World->Prop} {c8:List α->α->β->World->World->Prop} {xs:List α} (c9:Gives P gf lb O Kp Kx c8 xs w) (e0:∀b,(O b).size=ps.size)
 (a7:∀{l:Nat} {X Y Z:World},Kp l X Y->Kp l Y Z->Kp l X Z) (a5:∀(l:Nat) (W:World) (o o':Obj),w.heap.size<=l->W.heap[l]?=some o->o.isCells=false->Kp l W (W.putObj l o'))
 (d0:∀{l:Nat} {X Y Z V:World},Kp l X Y->Kx l Y Z->Kp l Z V->Kx l X V)
 (I:List α->World->Prop) (Ix:Code->World->Prop) (hI:∀s X Y,I s X->KT w.heap.size X Y->I s Y) (a6:∀c X Y,Ix c X->KT w.heap.size X Y->Ix c Y) (h0:I [] w)
 (Ax:Nat->List α->α->β->Act->World->Prop) (e1:∀l pre x b a' W o o',Ax l pre x b a' W->w.heap.size<=l->W.heap[l]?=some o->o.isCells=false->Ax l pre x b a' (W.putObj l o'))
 (a2:∀(l:Nat) (pre:List α) (x:α) (b:β) (X Y:World) (K:Act->World->Prop),w.heap.size<=l->I pre X->KT w.heap.size X Y->c8 pre x b X Y->(∃r,Y.heap[l]?=some (.loop r))->
  (∀a' W',KeepsFrom w.heap.size Y W'->Kp l Y W'->Ax l pre x b a' W'->K a' W')->
  assign.wpIn (Fence.wide.inRound l) 0 P (Exit.then K (λ_ _ _=>False)) { tmps:=(ps.zip (O b)).foldl (λt (p,v)=>t.setIfInBounds p v) a.tmps,defers:=[] } Y)
 (a8:∀(l:Nat) (pre:List α) (x:α) (b:β) (a':Act) (W:World),w.heap.size<=l->(∃r,W.heap[l]?=some (.loop r))->Ax l pre x b a' W->body.wpIn (Fence.wide.inRound l) 0 P (qFm w.heap.size (Kp l) (Kx l) I Ix (pre++[x]) W) a' W)
 (a9:∀(D:Nat) (W:World),w.heap.size<=D->I xs W->W.heap[D]?=some (.deferred (some []))->Q .normal { a with defers:={ target:=.collected D,args:=#[] }::a.defers } W)
 (b0:∀(D:Nat) (c:Code) (W:World),w.heap.size<=D->Ix c W->W.heap[D]?=some (.deferred (some []))->c.wpIn Fence.wide 0 P Q { a with defers:={ target:=.collected D,args:=#[] }::a.defers } W):
 (Code.rangeFunc g ps assign body).wpIn Fence.wide 0 P Q a w:=by
 refine wpIn_rangeFunc λfn e2=>?_;obtain⟨rec,M⟩:∃rec:LoopState->Option Code->Loop,rec=λst pe=>{ state:=st,pending:=pe,fn,tmps:=a.tmps,params:=ps,assign,body,defers:=w.heap.size }:=⟨_,rfl⟩;obtain⟨U,a4⟩:∃U,U=(w.alloc (.deferred (some []))).alloc (.loop (rec .ready none)):=⟨_,rfl⟩;have e7:U.heap.size=w.heap.size+2:=by rw[a4];simp
 have d6:Bl w U:=by rw[a4];exact((bM _ _).alloc (bK _) _).alloc Ss _
 have d7:U.heap[w.heap.size+1]?=some (.loop (rec .ready none)):=by
  rw[a4];have:=World.alloc_heap_new (w.alloc (.deferred (some []))) (.loop (rec .ready none));rwa[World.size_alloc]at this
 have e3:U.heap[w.heap.size]?=some (.deferred (some [])):=by
  rw[a4];exact(Below.heap_alloc _ _ _ Ss).trans (World.alloc_heap_new w _)
 obtain⟨l,hl⟩:∃l,l=w.heap.size+1:=⟨_,rfl⟩;rw[<-hl]at d7
 have two:∀{X Y:World} {r:Loop},KT U.heap.size X Y->X.heap[l]?=some (.loop r)->X.heap[w.heap.size]?=some (.deferred (some []))->Y.heap[l]?=some (.loop r)/\Y.heap[w.heap.size]?=some (.deferred (some [])):=λ{X Y r} hk h1 h2=>
  ⟨(hk.bel.block _ Oo).trans h1,(hk.bel.block _ Oo).trans h2⟩
 have b7:∀{X Y:World},KT U.heap.size X Y->KT w.heap.size X Y:=λh=>h.mono Oo
 have b9:=c9 l (λpre W=>I pre W/\W.heap[l]?=some (.loop (rec .ready none))/\W.heap[w.heap.size]?=some (.deferred (some [])))
  (λW=>∃c,Ix c W/\W.heap[l]?=some (.loop (rec .done (some c)))/\W.heap[w.heap.size]?=some (.deferred (some []))) U d6 Oo Oo
  (λs X Y hs hk=>⟨hI s X Y hs.1 (b7 hk),two hk hs.2.1 hs.2.2⟩)
  (λX Y hs hk=>by
   obtain⟨c,hc,h1,h2⟩:=hs;exact⟨c,a6 c X Y hc (b7 hk),two hk h1 h2⟩)
  (λpre x b X Y hs hk hp=>by
   obtain⟨hi,h1,h2⟩:=hs;obtain⟨g1,g2⟩:=two hk h1 h2;have hy:=run_yield (P:=P) (args:=O b) g1 (by rw[M];exact e0 b);rw[M]at hy;refine⟨fn,_,assign,body,hy,roundIn_of_wpIn e2 (a2 l pre x b X Y _ Oo hi (b7 hk) hp ⟨_,g1⟩ ?_)⟩;clear hy;intro a' W' d8 e4 e5;have f1:=d8.same _ _ Oo g1 rfl;have f2:=d8.same _ _ (bK _) g2 rfl;have e6:=qP f1;refine⟨_,run_beginRound f1 (by rw[M]),?_⟩;have b1:(W'.putObj l (.loop { rec .ready none with state:=.busy })).heap[l]?=some (.loop { rec .ready none with state:=.busy }):=World.putObj_heap_same e6;have b2:(W'.putObj l (.loop { rec .ready none with state:=.busy })).heap[w.heap.size]?=some (.deferred (some [])):=(World.putObj_heap_other Oo).trans f2;have c7:=a7 e4 (a5 l W' _ (.loop { rec .ready none with state:=.busy }) Oo f1 rfl);refine wpIn_mono (a8 l pre x b a' _ Oo ⟨_,b1⟩ (e1 l pre x b a' W' _ _ e5 Oo f1 rfl)) ?_
   have fin:∀(jump:Option Code) (W3:World),KeepsFrom w.heap.size (W'.putObj l (.loop { rec .ready none with state:=.busy })) W3->
    (Instr.endRound l jump).run P W3=.ok (.bool jump.isNone) (W3.putObj l (.loop (rec (if jump.isNone then .ready else .done) jump)))/\W3.heap[l]?=some (.loop { rec .ready none with state:=.busy })/\
    (W3.putObj l (.loop (rec (if jump.isNone then .ready else .done) jump))).heap[l]?=some (.loop (rec (if jump.isNone then .ready else .done) jump))/\
    (W3.putObj l (.loop (rec (if jump.isNone then .ready else .done) jump))).heap[w.heap.size]?=some (.deferred (some [])):=λjump W3 d9=>by
    have c1:=d9.same _ _ Oo b1 rfl;have c2:=d9.same _ _ (bK _) b2 rfl;have hr:=run_endRound (P:=P) jump c1;rw[M]at hr ⊢;exact⟨hr,by rw[M]at c1;exact c1,World.putObj_heap_same (qP c1),(World.putObj_heap_other Oo).trans c2⟩
   rintro e a3 W3 hq;cases e with
   |normal=>
    obtain⟨q1,q2,q3⟩:=hq;obtain⟨hr,c1,c2,c3⟩:=fin none W3 q1;exact⟨_,_,hr,Or.inl ⟨rfl,⟨hI _ _ _ q3 (KT.put _ Oo c1 rfl),c2,c3⟩,a7 (a7 c7 q2) (a5 l _ _ _ Oo c1 rfl)⟩⟩
   |ret=>
    obtain⟨q1,q2,q3⟩:=hq;obtain⟨hr,c1,c2,c3⟩:=fin (some .ret) W3 q1;exact⟨_,_,hr,Or.inr ⟨rfl,⟨.ret,a6 _ _ _ q3 (KT.put _ Oo c1 rfl),c2,c3⟩,d0 c7 q2 (a5 l _ _ _ Oo c1 rfl)⟩⟩
   |exit id=>
    obtain⟨q1,q2,q3⟩:=hq;obtain⟨hr,c1,c2,c3⟩:=fin (some (.exit id)) W3 q1;exact⟨_,_,hr,Or.inr ⟨rfl,⟨.exit id,a6 _ _ _ q3 (KT.put _ Oo c1 rfl),c2,c3⟩,d0 c7 q2 (a5 l _ _ _ Oo c1 rfl)⟩⟩
   |goto t=>exact hq.elim
   |panic ch=>exact hq.elim
   |outgrown=>exact hq.elim)
  ⟨hI [] w U h0 (KT.of_below d6 (bK _)),d7,e3⟩
 refine⟨l,[{ target:=.collected w.heap.size,args:=#[] }],U,{ target:=.fn (.func gf) lb,args:=#[.func (.yield l) #[] #[]] },U,gf,#[.func (.yield l) #[] #[]]++lb,U,?_,?_,?_,?_,qEg _,?_⟩
 ·have:=run_enterLoop_outer (P:=P) (w:=w) fn a.tmps ps assign body;rw[hl,a4,M];exact this
 ·simp only[resolve,hg];simp[go_sem]
 ·intro f' _;trivial
 ·simp[invoke,go_sem,eg]
 ·refine callsIn_wide.2 (b9.mono ?_);rintro e W2 ⟨⟨v,rfl⟩,⟨hi,h1,h2⟩|⟨c,hi,h1,h2⟩⟩
  ·exact⟨none,_,by have:=run_endLoop (P:=P) h1 (by rw[M];simp);rw[M]at this;exact this,a9 _ _ (bK _) (hI _ _ _ hi (KT.put _ Oo h1 rfl)) ((World.putObj_heap_other Oo).trans h2)⟩
  ·exact⟨some c,_,by have:=run_endLoop (P:=P) h1 (by rw[M];simp);rw[M]at this;exact this,b0 _ c _ (bK _) (a6 _ _ _ hi (KT.put _ Oo h1 rfl)) ((World.putObj_heap_other Oo).trans h2)⟩
structure JX where
 h:Nat
 r:Nat
 v:Nat
 n0:Nat
 nT:Nat
 H:Nat->Nat->Bool
 D:Nat->List Int->Prop
 N:Nat->List Int->List Int
 f:Nat->List Int->Nat
 g0:Nat->List Int->Value
 g1:Nat->List Int->Value
 hv:Value
 uh:List Value
 hav:List (List Int)
def RBk(x:JX)(W:World)(k:Nat):Prop:=∃o n c,W.cell? ⟨x.r,0,none⟩=some (.slice (some ⟨k,o,none⟩) n c)
def Mb(x:JX)(W:World)(k:Nat):Prop:=k=x.h∨k=x.r∨k=x.v∨RBk x W k
def TyR(x:JX)(W:World):Prop:=∀k,RBk x W k->∃cur z,W.heap[k]?=some (Obj.cells cur 25 z)
structure KpS(x:JX)(S:Nat->Prop)(W W':World):Prop where
 os:W'.os=W.os
 tape:W'.tape=W.tape
 output:W'.output=W.output
 size:W.heap.size<=W'.heap.size
 same:∀(k:Nat) (o:Obj),W.heap[k]?=some o->(o.isCells=true∨¬S k)->¬Mb x W k->W'.heap[k]?=some o
 fresh:∀k,RBk x W' k->RBk x W k∨W.heap.size<=k
 typ:TyR x W->TyR x W'
section
variable {x:JX} {S:Nat->Prop} {X Y Z:World}
theorem RBk.eq(h:Y.heap[x.r]?=X.heap[x.r]?)(k:Nat):RBk x Y k↔RBk x X k:=by
 unfold RBk;have e:Y.cell? ⟨x.r,0,none⟩=X.cell? ⟨x.r,0,none⟩:=bF (w:=X) (a:=⟨x.r,0,none⟩) h;rw[e]
theorem KpS.refl(x:JX)(S:Nat->Prop)(X:World):KpS x S X X:=⟨rfl,rfl,rfl,bK _,λ_ _ h _ _=>h,λ_ h=>Or.inl h,λh=>h⟩
theorem KpS.trans(h:KpS x S X Y)(k:KpS x S Y Z):KpS x S X Z:=by
 refine⟨k.os.trans h.os,k.tape.trans h.tape,k.output.trans h.output,bQ h.size k.size,λi o hi hs I=>?_,λi hi=>?_,λM=>k.typ (h.typ M)⟩
 ·refine k.same i o (h.same i o hi hs I) hs λK=>?_;rcases K with e|e|e|e
  ·exact I (Or.inl e)
  ·exact I (Or.inr (Or.inl e))
  ·exact I (Or.inr (Or.inr (Or.inl e)))
  ·rcases h.fresh i e with e|e
   ·exact I (Or.inr (Or.inr (Or.inr e)))
   ·have:=qP hi;omega
 ·rcases k.fresh i hi with e|e
  ·exact h.fresh i e
  ·exact Or.inr (bQ h.size e)
theorem KpS.sub{I:Nat->Prop}(h:KpS x S X Y)(hs:∀k,S k->I k):KpS x I X Y:=
 ⟨h.os,h.tape,h.output,h.size,λk o K M O=>h.same k o K (M.imp id λU V=>U (hs k V)) O,h.fresh,h.typ⟩
theorem KpS.kt(h:KpS x S X Y)(k:KT X.heap.size Y Z)(hr:x.r < X.heap.size):KpS x S X Z:=by
 have hb:=k.bel;have I:Z.heap[x.r]?=Y.heap[x.r]?:=hb.block _ hr;refine⟨hb.os.trans h.os,hb.tape.trans h.tape,hb.output.trans h.output,bQ h.size hb.size,λi o hi hs M=>(hb.block i (qP hi)).trans (h.same i o hi hs M),λi hi=>h.fresh i ((RBk.eq I i).1 hi),λO i hi=>?_⟩;obtain⟨cur,z,K⟩:=h.typ O i ((RBk.eq I i).1 hi);exact⟨cur,z,(k.cel i cur _ z K Dd Dd).trans K⟩
theorem KpS.put{O:Obj}(hs:S l)(hl:X.heap[l]?=some o)(U:o.isCells=false)(hr:x.r≠l):KpS x S X (X.putObj l O):=by
 have V:(X.putObj l O).heap[x.r]?=X.heap[x.r]?:=World.putObj_heap_other hr;refine⟨rfl,rfl,rfl,Ss,λk o2 K M _=>(World.putObj_heap_other λe=>?_).trans K,λk K=>Or.inl ((RBk.eq V k).1 K),λht k K=>?_⟩
 ·subst e;rw[hl]at K;cases K
  rcases M with I|I
  ·rw[U]at I;cases I
  ·exact I hs
 ·obtain⟨cur,z,I⟩:=ht k ((RBk.eq V k).1 K);refine⟨cur,z,(World.putObj_heap_other λe=>?_).trans I⟩;subst e;rw[hl]at I;cases I
  cases U
theorem KpS.nr(h:KpS x S X Y)(O:k < X.heap.size)(K:¬RBk x X k):¬RBk x Y k:=λM=>by
 rcases h.fresh k M with I|I
 ·exact K I
 ·omega
theorem qFh(I:TyR x X)(K:Y.heap[x.r]?=X.heap[x.r]?)(U:X.heap.size<=k):¬RBk x Y k:=λM=>by
 obtain⟨cur,z,O⟩:=I k ((RBk.eq K k).1 M);have:=qP O;omega
end
structure Sb(x:JX)(W W':World):Prop where
 size:W.heap.size<=W'.heap.size
 same:∀(k:Nat) (cur:Array Value) (ty:TypeId) (z:Nat×Nat),x.n0<=k->W.heap[k]?=some (Obj.cells cur ty z)->ty≠182->ty≠4->(ty≠25∨¬RBk x W k)->W'.heap[k]?=W.heap[k]?
structure JX.Ok(x:JX):Prop where
 h:x.h < x.n0
 r:x.r < x.n0
 v:x.v < x.n0
section
variable {x:JX} {S:Nat->Prop} {X Y Z:World}
theorem KT.sb(h:KT x.n0 X Y):Sb x X Y:=⟨h.bel.size,λk cur ty z _ I K M _=>h.cel k cur ty z I K M⟩
theorem KpS.not(K:x.Ok)(U:TyR x X){cur:Array Value}{ty:TypeId}{z:Nat×Nat}(hk:x.n0<=k)(V:X.heap[k]?=some (Obj.cells cur ty z))(I:ty≠25∨¬RBk x X k):¬Mb x X k:=λhm=>by
 have h1:=K.h;have h2:=K.r;have h3:=K.v;rcases hm with e|e|e|e
 ·omega
 ·omega
 ·omega
 ·rcases I with I|I
  ·obtain⟨M,z',O⟩:=U k e;rw[V]at O;cases O
   exact I rfl
  ·exact I e
theorem KpS.sb(h:KpS x S X Y)(K:x.Ok)(M:TyR x X):Sb x X Y:=
 ⟨h.size,λk _ _ _ O I _ _ U=>(h.same k _ I (Or.inl rfl) (KpS.not K M O I U)).trans I.symm⟩
theorem ji{v:Value}(h:X.ownsRow B e s v n xs)(hs:Sb x X Y)(hB:x.n0<=B)(K:e≠182)(M:e≠4)(O:e≠25∨∀k,v.ownBlock=some k->¬RBk x X k):Y.ownsRow B e s v n xs:=
 qA h λg I=>by
  obtain⟨cur,U⟩:=qO h I;exact hs.same g cur e _ (bQ hB (h.lt g I).1) U K M (O.imp id λV=>V g I)
theorem TR.sb{D:List Int->Prop}{N0 N1:List Int->List Int}{f:List Int->Nat}{g0 g1:List Int->Value}(h:TR X B D N0 N1 f g0 g1)(hs:Sb x X Y)(hB:x.n0<=B):TR Y B D N0 N1 f g0 g1:=
 ⟨λp hp=>(hs.same _ _ _ _ (bQ hB (h.low p hp)) (h.blk p hp) Dd Dd (Or.inl Dd)).trans (h.blk p hp),h.low,λp hp=>ji (h.o0 p hp) hs hB Dd Dd (Or.inl Dd),λp hp=>ji (h.o1 p hp) hs hB Dd Dd (Or.inl Dd),h.inj,h.a0,h.a1⟩
theorem TR.base{D:List Int->Prop}{N0 N1:List Int->List Int}{f:List Int->Nat}{g0 g1:List Int->Value}(h:TR X B D N0 N1 f g0 g1)(hB:B'<=B):TR X B' D N0 N1 f g0 g1:=
 ⟨h.blk,λp hp=>bQ hB (h.low p hp),λp hp=>qF (h.o0 p hp) hB,λp hp=>qF (h.o1 p hp) hB,h.inj,h.a0,h.a1⟩
end
structure Dat(x:JX)(W:World):Prop where
 ty:TyR x W
 tr:∀t,t < x.nT->TR W x.n0 (x.D t) (x.N t) (x.N t) (x.f t) (x.g0 t) (x.g1 t)
 hq:RQ W x.n0 x.hv x.uh x.hav
 nr:∀k,x.hv.ownBlock=some k->¬RBk x W k
section
variable {x:JX} {S:Nat->Prop} {X Y Z:World}
theorem Dat.sb(h:Dat x X)(hs:Sb x X Y)(M:TyR x Y)(O:∀k,k < X.heap.size->¬RBk x X k->¬RBk x Y k):Dat x Y:=by
 refine⟨M,λt I=>(h.tr t I).sb hs (bK _),⟨ji h.hq.own hs (bK _) Dd Dd (Or.inr h.nr),h.hq.len,λi hi=>ji (h.hq.each i hi) hs (bK _) Dd Dd (Or.inl Dd),h.hq.ap⟩,λk K=>O k (h.hq.own.lt k K).2 (h.nr k K)⟩
theorem TyR.kt(h:TyR x X)(I:KT x.n0 X Y)(M:x.Ok):TyR x Y:=λk hr=>by
 obtain⟨cur,z,K⟩:=h k ((RBk.eq (I.bel.block _ M.r) k).1 hr);exact⟨cur,z,(I.cel k cur _ z K Dd Dd).trans K⟩
theorem Dat.kt(h:Dat x X)(I:KT x.n0 X Y)(K:x.Ok):Dat x Y:=h.sb I.sb (h.ty.kt I K) λk _ M O=>M ((RBk.eq (I.bel.block _ K.r) k).1 O)
theorem Dat.kp(h:Dat x X)(I:KpS x S X Y)(K:x.Ok):Dat x Y:=h.sb (I.sb K h.ty) (I.typ h.ty) λ_ hl M=>I.nr hl M
end
def JX.bel(x:JX)(p:List Int):List Value:=(List.range x.nT).map λt=>.pointer (some ⟨x.f t (prt (x.H t) p),0,none⟩)
theorem JX.bel_len(x:JX)(p:List Int):(x.bel p).length=x.nT:=by simp[JX.bel]
structure Brn(x:JX)(B:Nat)(W:World)(vp vb:Value)(p:List Int):Prop where
 pre:W.ownsRow B 3 1 vp p.length (p.map (Value.int .i64))
 bel:W.ownsRow B 123 1 vb x.nT (x.bel p)
section
variable {x:JX} {S:Nat->Prop} {X Y Z:World}
theorem Brn.sb(h:Brn x B X vp vb p)(hs:Sb x X Y)(hB:x.n0<=B):Brn x B Y vp vb p:=
 ⟨ji h.pre hs hB Dd Dd (Or.inl Dd),ji h.bel hs hB Dd Dd (Or.inl Dd)⟩
theorem Brn.below(h:Brn x B X vp vb p)(hs:Bl X Y):Brn x B Y vp vb p:=⟨qB h.pre hs,qB h.bel hs⟩
theorem Brn.base(h:Brn x B X vp vb p)(hB:B'<=B):Brn x B' X vp vb p:=⟨qF h.pre hB,qF h.bel hB⟩
end
open Meet
theorem qAl(w:World)(x y:Value)(t:TypeId):∀j u,[x,y][j]?=some u->(w.alloc (.cells #[x,y] t)).cell? ((⟨w.heap.size,0,none⟩:Addr).add j)=some u:=by
 intro j u I;match j,I with
 |0,I=>simp at I;subst I;simp[Addr.add]
 |1,I=>simp at I;subst I;simp[Addr.add]
def yd(nd:Nat->Nat)(q:Nat->Nat)(k:Nat):List Value:=(List.range k).flatMap λi=>[.pointer (some ⟨nd i,0,none⟩),.int .i64 (q i)]
theorem vg(nd q:Nat->Nat)(k:Nat):yd nd q (k+1)=yd nd q k++[.pointer (some ⟨nd k,0,none⟩),.int .i64 (q k)]:=by
 unfold yd;rw[List.range_succ,List.flatMap_append];simp
theorem xr(nd q:Nat->Nat)(k:Nat):(yd nd q k).length=k*2:=by
 induction k with
 |zero=>rfl
 |succ k ih=>rw[vg,lA,ih];simp;omega
theorem Ua(nd q:Nat->Nat)(k i:Nat)(hi:i < k):(yd nd q k)[i*2]?=some (.pointer (some ⟨nd i,0,none⟩))/\(yd nd q k)[i*2+1]?=some (.int .i64 (q i)):=by
 induction k with
 |zero=>omega
 |succ k ih=>
  rw[vg];by_cases e:i < k
  ·have:=ih e;rw[aL (by rw[xr];omega),aL (by rw[xr];omega)];exact this
  ·obtain rfl:i=k:=Oo;rw[bX (by rw[xr];omega),bX (by rw[xr];omega),xr];refine⟨?_,?_⟩
   ·rw[Nat.sub_self];rfl
   ·rw[show i*2+1 - i*2=1 by omega];rfl
theorem VM(w:World)(vp vt:Value)(bb nT cb:Nat)(K:List Int)(nd:Nat->Nat)(e4:∃a n c,vp=.slice a n c)(ht:IS w vt K)(hn:K.length<=1000)
 (a5:∀j,j < K.length->0<=K.getD j 0/\K.getD j 0 < nT) (a3:∀j,j < K.length->w.cell? ⟨bb,(K.getD j 0).toNat,none⟩=some (.pointer (some ⟨nd j,0,none⟩))):
 Cl 130 #[.agg #[vp,.slice (some ⟨bb,0,none⟩) nT cb],vt] w λe w'=>∃v,e=.returned v/\w'.ownsRow w.heap.size 182 2 v K.length (yd nd (λ_=>0) K.length)/\Bl w w':=by
 obtain⟨iC,hi,a8,a9,b0⟩:=info_parts Tryz.infoCur;obtain⟨ap,np,cp,rfl⟩:=e4;obtain⟨at',ct,rfl,hc⟩:=ht;obtain⟨n,b7⟩:∃n,n=K.length:=⟨_,rfl⟩;rw[<-b7]at hc hn a5 a3 ⊢;clear b7;obtain⟨Wx,U⟩:∃Wx,Wx=w.alloc (.cells #[.slice ap np cp,.slice (some ⟨bb,0,none⟩) nT cb] 120):=⟨_,rfl⟩;have b9:Bl w Wx:=by rw[U];exact(bM _ _).alloc (bK _) _
 have e5:Wx.heap.size=w.heap.size+1:=by rw[U];simp
 have c7:Wx.cell? ⟨w.heap.size,1,none⟩=some (.slice (some ⟨bb,0,none⟩) nT cb):=by rw[U,cA _ _ _ _ rfl];rfl
 obtain⟨Wm,a4,V,M⟩:=run_makeSlice_owned (P:=Tryz.prog) Wx w.heap.size 177 182 iC (.agg #[.pointer none,.int .i64 0]) 2 Tryz.underlying177 hi a8 a9 .i64 .i64 n Oo (by rw[b0];omega) (by unfold maxLen;omega) Oo;have e6:Sem.run Tryz.prog (Instr.makeSlice 177 (.int .i64 0) (.int .i64 (n:Int))) Wx=.ok (.slice (some ⟨Wx.heap.size,0,none⟩) 0 n) Wm:=a4;have c8:Bl w Wm:=b9.grown M Oo (λk hk=>by cases hk);have c9:=hid c8;have d0:=hid V;have d6:Wm.cell? ⟨w.heap.size,1,none⟩=some (.slice (some ⟨bb,0,none⟩) nT cb):=(bF (w:=Wx) (a:=⟨w.heap.size,1,none⟩) (M.block _ (by show w.heap.size < _;omega) (λe=>by cases e))).trans c7;have d7:∃cur,Wm.heap[w.heap.size]?=some (.cells cur 120 (0,0)):=⟨#[.slice ap np cp,.slice (some ⟨bb,0,none⟩) nT cb],(M.block _ Oo (λe=>by cases e)).trans (by rw[U];exact heap_alloc_new _ _)⟩;have d8:=hid d7
 have HC:Hid (∀W,Bl w W->∀j,j < n->∃(b o:Nat),at'=some ⟨b,o,none⟩/\W.cell? ⟨b,o+j,none⟩=some (.int .i64 (K.getD j 0))/\W.cell? ⟨bb,(K.getD j 0).toNat,none⟩=some (.pointer (some ⟨nd j,0,none⟩))):=hid λW hW j hj=>by
  rcases hc with h0|⟨b,o,rfl,h⟩
  ·omega
  ·exact⟨b,o,rfl,(hW.cell (bL w _ (h j hj))).trans (h j hj),(hW.cell (bL w _ (a3 j hj))).trans (a3 j hj)⟩
 have a6:=hid a5;clear hc a5 a3 a4 V M c8 d7 b9;go_enter Tryz.func130,Tryz.ntmps130
 go_upto_region 1 with fail
 rw[<-U];clear U c7;go_upto_block 0 with fail
 clear e6;go_wp2_with fail
 go_loopw [5,13] (λv t wr=>∃(k:Nat) (vo:Value),k<=n/\t=.int .i64 k/\vo=v/\wr.cell? ⟨w.heap.size,1,none⟩=some (.slice (some ⟨bb,0,none⟩) nT cb)/\Hid (Bl w wr/\wr.ownsRow w.heap.size 182 2 vo k (yd nd (λ_=>0) k)/\∃cur,wr.heap[w.heap.size]?=some (.cells cur 120 (0,0)))) (λ_ t _=>n - (intOf t).toNat)
 case atStart=>exact⟨0,_,nZ _,rfl,rfl,d6,hid ⟨c9.out,by have:=d0.out;rw[e5]at this;exact this,d8.out⟩⟩
 case round=>
  clear d6 c9 d0 d8;obtain⟨k,vo,hk,rfl,rfl,d9,HT⟩:=hrel;by_cases e0:k < n
  ·have i1:(k:Int) < (n:Int):=Oo;obtain⟨b,o,ea,c1,c2⟩:=HC.out wr HT.out.1 k e0;subst ea;have h3:=a6.out k e0;obtain⟨t,ht⟩:∃t:Nat,t=(K.getD k 0).toNat:=⟨_,rfl⟩;have e1:K.getD k 0=(t:Int):=Oo;rw[e1]at c1 c2;have i2:(t:Int) < (nT:Int):=Oo;rw[show((t:Int)).toNat=t by omega]at c2;clear h3 ht e1 HC a6;have hs:=HT.out.1.size
   go_wp2_with (first
    |(at_builtin;refine wpList_append_lies _ rfl _ _ 177 rfl w.heap.size 182 iC (.agg #[.pointer none,.int .i64 0]) 2 16 Tryz.underlying177 hi a8 a9 b0 rfl Dd vo _ _ rfl (HT.out.2.1.alloc _) ⟨_,0,none⟩ 1 1 [.pointer (some ⟨nd k,0,none⟩),.int .i64 0] rfl rfl (qAl _ _ _ _) (λu hu=>by simp at hu;rcases hu with rfl|rfl <;> rfl) Dd (by unfold maxLen;omega) Oo (by simp;omega) _ rfl ?_;intro g3 cp3 w3 a2 I e2 e3)
    |fail)
   obtain⟨cur,O⟩:=HT.out.2.2;have a7:w3.heap[w.heap.size]?=wr.heap[w.heap.size]?:=zI I (qP O) (own_ne HT.out.2.1 ⟨cur,O⟩ Dd);have e7:w3.cell? ⟨w.heap.size,1,none⟩=some (.slice (some ⟨bb,0,none⟩) nT cb):=(bF (w:=wr) (a:=⟨w.heap.size,1,none⟩) a7).trans d9;have HN:Hid (Bl w w3/\w3.ownsRow w.heap.size 182 2 (.slice (some ⟨g3,0,none⟩) (k+1) cp3) (k+1) (yd nd (λ_=>0) (k+1))/\∃cur,w3.heap[w.heap.size]?=some (.cells cur 120 (0,0))):=hid ⟨(HT.out.1.alloc hs _).grown I (by simp;omega) (λq hq=>(HT.out.2.1.lt q hq).1),by rw[vg];exact a2,cur,a7.trans O⟩;clear a2 I e2 e3 HT d9 a7 O;go_roundw
   case rel=>exact⟨k+1,_,Oo,Gg,rfl,e7,HN⟩
   case measure=>simp[intOf];omega
  ·obtain rfl:k=n:=Oo;have i1:¬((k:Int) < (k:Int)):=Oo;clear HC a6;go_wp2_with fail
   go_ret;exact⟨vo,rfl,HT.out.2.1,HT.out.1⟩
theorem Ue(w:World)(cu cc n:Nat)(nd q:Nat->Nat)(V:Nat->Option Addr)(K ca:Nat->Nat)(h1:0 < n)(hn:n<=1000)(O:∀j,j < n->w.cell? ⟨cu,j*2,none⟩=some (.pointer (some ⟨nd j,0,none⟩))/\w.cell? ⟨cu,j*2+1,none⟩=some (.int .i64 (q j)))
 (hv:∀j,j < n->w.cell? ⟨nd j,0,none⟩=some (.slice (V j) (K j) (ca j))):
 Cl 131 #[.slice (some ⟨cu,0,none⟩) n cc] w λe w'=>∃i,i < n/\e=.returned (.slice (V i) (K i) (ca i))/\Bl w w':=by
 obtain⟨c0,-⟩:=O 0 h1;have v0:=hv 0 h1;rw[Nat.zero_mul]at c0;have i0:(0:Int) < (n:Int):=Oo
 have HC:Hid (∀W,Bl w W->∀j,j < n->W.cell? ⟨cu,j*2,none⟩=some (.pointer (some ⟨nd j,0,none⟩))/\W.cell? ⟨cu,j*2+1,none⟩=some (.int .i64 (q j))/\W.cell? ⟨nd j,0,none⟩=some (.slice (V j) (K j) (ca j))):=hid λW hW j U=>
  ⟨(hW.cell (bL w _ (O j U).1)).trans (O j U).1,(hW.cell (bL w _ (O j U).2)).trans (O j U).2,(hW.cell (bL w _ (hv j U))).trans (hv j U)⟩
 clear O hv;go_enter Tryz.func131,Tryz.ntmps131
 go_upto_block 0 with fail
 clear c0 v0;go_wp2_with fail
 go_loopw [3,15] (λv t wr=>∃(k i:Nat),k<=n/\i < n/\t=.int .i64 k/\v=.slice (V i) (K i) (ca i)/\Hid (Bl w wr)) (λ_ t _=>n - (intOf t).toNat)
 case atStart=>exact⟨0,0,nZ _,h1,rfl,rfl,hid (bM _ _)⟩
 case round=>
  obtain⟨k,i,hk,hi,rfl,rfl,HB⟩:=hrel;by_cases a2:k < n
  ·have i1:(k:Int) < (n:Int):=Oo;obtain⟨c1,c2,c3⟩:=HC.out wr HB.out k a2;obtain⟨W2,I⟩:∃W2,W2=wr.alloc (.cells #[.pointer (some ⟨nd k,0,none⟩),.int .i64 (q k)] 182):=⟨_,rfl⟩;have M:Bl wr W2:=by rw[I];exact(bM _ _).alloc (bK _) _
   have d1:W2.cell? ⟨wr.heap.size,0,none⟩=some (.pointer (some ⟨nd k,0,none⟩)):=by rw[I,cA _ _ _ _ rfl];rfl
   have d3:W2.cell? ⟨nd k,0,none⟩=some (.slice (V k) (K k) (ca k)):=(M.cell (bL wr _ c3)).trans c3;have a3:=hid (bt HB.out M);clear M HC c3;go_upto_region 5 with fail
   rw[<-I];clear I c1 c2;by_cases a4:(K k:Int) < (K i:Int)
   ·go_wp2_with fail
    go_roundw
    case rel=>exact⟨k+1,k,Oo,a2,Gg,rfl,a3⟩
    case measure=>simp[intOf];omega
   ·go_wp2_with fail
    go_roundw
    case rel=>exact⟨k+1,i,Oo,hi,Gg,rfl,a3⟩
    case measure=>simp[intOf];omega
  ·obtain rfl:k=n:=Oo;have i1:¬((k:Int) < (k:Int)):=Oo;clear HC;go_wp2_with fail
   go_ret;exact⟨i,hi,rfl,HB.out⟩
theorem Tryz.infoTriP:(Tryz.prog.info? 123).map (λi=>(i.zero,i.size,i.bytes))=some (some (.pointer none),1,8):=by kernel_rfl
theorem qB2(h:W.ownsRow B e 1 (.slice (some ⟨g,0,none⟩) n c) n xs):∀j u,xs[j]?=some u->W.cell? ((⟨g,0,none⟩:Addr).add j)=some u:=h.cells rfl
theorem VN(w:World)(B g cap n:Nat)(xs:List Value)(h:w.ownsRow B 123 1 (.slice (some ⟨g,0,none⟩) n cap) n xs)(h0:0 < n)(hl:n<=100000)(O:∀u∈xs,u.oneCell'=true):
 Cl 151 #[.slice (some ⟨g,0,none⟩) n cap] w λe w'=>∃g' c',e=.returned (.slice (some ⟨g',0,none⟩) n c')/\w'.ownsRow w.heap.size 123 1 (.slice (some ⟨g',0,none⟩) n c') n xs/\Bl w w':=by
 obtain⟨i0,hi,V,a2,a3⟩:=info_parts Tryz.infoTriP;have hq:∀w:World,(binOp .eql 118 (.slice (some ⟨g,0,none⟩) n cap) (.slice none 0 0)).run Tryz.prog w=.ok (.bool false) w:=λw=>Lib.run_eql_slice_nil w 118 123 (some ⟨g,0,none⟩) n cap 0 0 Tryz.underlying118;have K:(w.alloc (.cells #[] 123)).ownsRow w.heap.size 123 1 (.slice (some ⟨w.heap.size,0,none⟩) 0 0) 0 []:=oM w #[] 0 (bK _) Dd rfl;have U:Bl w (w.alloc (.cells #[] 123)):=(bM _ _).alloc (bK _) _;have a4:=hid (qB2 (qB h U));have HL:=hid h.1;clear h;go_enter Tryz.func151,Tryz.ntmps151
 go_wp2_with (first|(at_builtin;refine wpList_append_lies _ rfl _ _ 118 rfl w.heap.size 123 i0 (.pointer none) 1 8 Tryz.underlying118 hi V a2 a3 rfl Dd (.slice (some ⟨w.heap.size,0,none⟩) 0 0) 0 [] rfl K ⟨g,0,none⟩ n cap xs rfl HL.out a4.out O Oo (by unfold maxLen;omega) Oo Ss _ rfl ?_;intro g3 cp3 w3 M I a5 a6)|fail)
 go_ret;refine⟨g3,cp3,rfl,?_,U.grown I Ss (λk hk=>(K.lt k hk).1)⟩;simpa using M
theorem qE(h:Bl A X)(o:Obj):Bl A (X.alloc o):=h.alloc h.size o
theorem xU(h:Bl A X):Bl A X.drew:=h.drew
theorem ZI{v:Value}{t:TypeId}(K:k=X.heap.size)(hb:Below (X.alloc (.cells #[v] t)).heap.size (X.alloc (.cells #[v] t)) W):∀j u,[v][j]?=some u->W.cell? ((⟨k,0,none⟩:Addr).add j)=some u:=λj u M=>by
 subst K;have I:=qH X v t j u M;exact(hb.cell (bL _ _ I)).trans I
theorem xJ{v:Value}(h:w.ownsRow B e s v n xs):∃a cap,v=.slice a n cap:=by
 rcases h.2 with ⟨rfl,rfl⟩|⟨g,cap,cur,rfl,-⟩
 ·exact⟨_,_,rfl⟩
 ·exact⟨_,_,rfl⟩
def BrX(W:World)(k:Nat)(x y:Value):Prop:=W.heap[k]?=some (.cells #[x,y] 120 (0,0))
theorem BrX.new(W:World)(x y:Value):BrX (W.alloc (.cells #[x,y] 120)) W.heap.size x y:=heap_alloc_new _ _
theorem BrX.lt(h:BrX W k x y):k < W.heap.size:=qP h
theorem BrX.below(h:BrX W k x y)(hb:Bl W W'):BrX W' k x y:=(hb.block k h.lt).trans h
theorem BrX.c0(h:BrX W k x y):W.cell? ⟨k,0,none⟩=some x:=by rw[cell_of_row _ _ _ _ _ _ h];rfl
theorem BrX.c1(h:BrX W k x y):W.cell? ⟨k,1,none⟩=some y:=by rw[cell_of_row _ _ _ _ _ _ h];rfl
theorem BrX.free(h:BrX W k x y)(j:Nat):W.frozen? ⟨k,j,none⟩=false:=by unfold World.frozen?;rw[show W.heap[k]?=_ from h];simp
theorem BrX.set(h:BrX W k x y)(u v:Value):BrX ((W.setCell ⟨k,0,none⟩ u).setCell ⟨k,1,none⟩ v) k u v:=by
 unfold BrX;rw[bJ _ _ _ _ _ _ (bJ _ _ _ _ _ _ h)];rfl
theorem BrX.grown{u:Value}(h:BrX W k x y)(I:W.ownsRow B e s u n xs)(K:e≠120)(M:(W.alloc o).grownBy w3 u.ownBlock):BrX w3 k x y:=(zI M h.lt (own_ne I ⟨_,h⟩ K)).trans h
theorem yZ{v u1 u2:Value}(h:W.ownsRow B e s v n xs)(K:BrX W k x y)(M:e≠120):((W.setCell ⟨k,0,none⟩ u1).setCell ⟨k,1,none⟩ u2).ownsRow B e s v n xs:=
 qA h λg O=>by
  have I:g≠k:=λU=>own_ne h ⟨_,K⟩ M (by rw[<-U];exact O.symm);rw[bE _ _ _ _ (by exact I),bE _ _ _ _ (by exact I)]
structure WiE(w:World)(p:List Int)(xv:Int)(nT:Nat)(bs:List Value)(k:Nat)(wc:World)(g c g' c':Nat):Prop where
 box:BrX wc k (.slice (some ⟨g,0,none⟩) (p.length+1) c) (.slice (some ⟨g',0,none⟩) nT c')
 op:wc.ownsRow w.heap.size 3 1 (.slice (some ⟨g,0,none⟩) (p.length+1) c) (p.length+1) ((p++[xv]).map (Value.int .i64))
 ob:wc.ownsRow w.heap.size 123 1 (.slice (some ⟨g',0,none⟩) nT c') nT bs
 bel:Bl w wc
 low:w.heap.size<=k
def yR(bs:List Value)(ts:List Int)(y:Nat->Nat):Nat->List Value
 |0=>bs
 |k+1=>(yR bs ts y k).set (ts.getD k 0).toNat (.pointer (some ⟨y k,0,none⟩))
theorem VO(w:World)(vt:Value)(tl:List TbV)(h:ITs w vt tl)(hl:tl.length<=1048576):
 Cl 109 #[vt] w λe w'=>∃v,e=.returned v/\ISS w' v (tl.map TbV.vs)/\Bl w w':=by
 obtain⟨iS,U,b0,b7,b9⟩:=info_parts Tryz.infoIS;obtain⟨at',ct,rfl,hc⟩:=h
 have HC:Hid (∀W,Bl w W->∀j,j < tl.length->∃b oo v0,at'=some ⟨b,oo,none⟩/\TabAt W b (oo+j*3) (tl.getD j qC)/\W.cell? ⟨b,oo+j*3,none⟩=some v0/\IS w v0 (tl.getD j qC).vs):=hid λW hW j U=>by
  rcases hc with h0|⟨b,oo,rfl,h⟩
  ·omega
  ·obtain⟨v0,v1,v2,c0,c1,c2,hI⟩:=h j U;exact⟨b,oo,v0,rfl,(h j U).below hW,uE hW c0,hI.vs⟩
 have HE:Hid (∀(W:World) (v:Value) (us:List Value),Bl w W->W.ownsRow w.heap.size 25 1 v tl.length us->(∀i,i < tl.length->IS w (us.getD i undef) (tl.getD i qC).vs)->ISS W v (tl.map TbV.vs)):=hid λW v us hW ho hu=>by
  have eg:∀i,i < tl.length->(tl.map TbV.vs).getD i []=(tl.getD i qC).vs:=λi hi=>by rw[gD,bN,gD,bC hi];rfl
  have f7:=ho.1;rcases ho.2 with ⟨rfl,hn⟩|⟨g,cap,cur,rfl,f8,hh,hn,-,-,ht⟩
  ·exact⟨none,0,by rw[lM,hn],Or.inl (by rw[lM];exact hn)⟩
  ·refine⟨_,cap,by rw[lM],Or.inr ⟨g,0,rfl,λj U=>?_⟩⟩;rw[lM]at U;refine⟨us.getD j undef,?_,by rw[eg j U];exact(hu j U).below hW⟩;rw[Nat.zero_add,cell_of_row _ _ _ _ _ _ hh,<-Array.getElem?_toList,<-List.getElem?_take_of_lt (by omega:j < tl.length*1),ht,gD,bC Oo];rfl
 obtain⟨n,hn⟩:∃n,n=tl.length:=⟨_,rfl⟩;rw[<-hn]at hl HC HE ⊢;clear hn hc;obtain⟨Wm,V,K,a3⟩:=run_makeSlice_owned (P:=Tryz.prog) w w.heap.size 24 25 iS (.slice none 0 0) 1 Tryz.underlying24 U b0 b7 .i64 .i64 n Oo (by rw[b9];omega) (by unfold maxLen;omega) Oo;have e6:Sem.run Tryz.prog (Instr.makeSlice 24 (.int .i64 0) (.int .i64 (n:Int))) w=.ok (.slice (some ⟨w.heap.size,0,none⟩) 0 n) Wm:=V;have c7:Bl w Wm:=(bM _ _).grown a3 (bK _) (λk hk=>by cases hk);have c8:=hid c7;have c9:=hid K;clear V K a3 c7;go_enter Tryz.func109,Tryz.ntmps109
 go_upto_block 0 with fail
 clear e6;go_wp2_with fail
 go_loopw [3,11] (λu t wr=>∃(j:Nat) (vv:Value),j<=n/\t=.int .i64 j/\vv=u/\Hid (∃us,Bl w wr/\wr.ownsRow w.heap.size 25 1 vv j us/\∀i,i < j->IS w (us.getD i undef) (tl.getD i qC).vs)) (λ_ t _=>n - (intOf t).toNat)
 case atStart=>exact⟨0,_,nZ _,rfl,rfl,hid ⟨[],c8.out,c9.out,λi hi=>Oo⟩⟩
 case round=>
  clear c8 c9;obtain⟨j,vv,f9,rfl,rfl,HT⟩:=hrel;obtain⟨us,hB,hO,hU⟩:=HT.out;have HB:=hid hB;have HO:=hid hO;have HU:=hid hU;clear HT hB hO hU;by_cases e7:j < n
  ·have i1:(j:Int) < (n:Int):=Oo;obtain⟨b,oo,e8,ea,⟨v0,v1,v2,c0,c1,c2,hI⟩,a4,d6⟩:=HC.out wr HB.out j e7;subst ea;obtain rfl:e8=v0:=by rw[c0]at a4;exact(Option.some.inj a4).symm
   obtain⟨a0,k0,e0,-⟩:=hI.vs;obtain⟨a1,k1,e1,-⟩:=hI.rows;obtain⟨a2,k2,e2,-⟩:=hI.ws;subst e0 e1 e2;have d7:=hid d6;clear a4 hI d6;generalize (tl.getD j qC).rows.length=nr at *;generalize (tl.getD j qC).ws.length=n2 at *;obtain⟨W3,M⟩:∃W3,W3=wr.alloc (.cells #[.slice a0 (tl.getD j qC).vs.length k0,.slice a1 nr k1,.slice a2 n2 k2] 34):=⟨_,rfl⟩;have a5:Bl wr W3:=by rw[M];exact(bM _ _).alloc (bK _) _
   have d0:W3.cell? ⟨wr.heap.size,0,none⟩=some (.slice a0 (tl.getD j qC).vs.length k0):=by rw[M,cA _ _ _ _ rfl];rfl
   have a6:=hid (bt HB.out a5);have a7:=hid (qB HO.out a5);have e9:=a6.out.size;clear a5;have d8:us.length=j:=by have:=HO.out.1;omega
   have a8:=hid d8;clear d8;obtain⟨nv,a9⟩:∃nv,nv=(tl.getD j qC).vs.length:=⟨_,rfl⟩;rw[<-a9]at c0 d0 M;have d9:Hid (IS w (.slice a0 nv k0) (tl.getD j qC).vs):=hid (by rw[a9];exact d7.out);clear a9 d7;go_upto_region 5 with fail
   rw[<-M];clear M c0 c1 c2;go_wp2_with (first|(at_builtin;refine wpList_append_lies _ rfl _ _ 24 rfl w.heap.size 25 iS (.slice none 0 0) 1 24 Tryz.underlying24 U b0 b7 b9 rfl Dd vv _ us rfl (a7.out.alloc _) ⟨_,0,none⟩ 1 1 [.slice a0 nv k0] rfl rfl (qH _ _ _) (λu hu=>by simp at hu;subst hu;rfl) Dd (by unfold maxLen;omega) Oo (by simp;omega) _ rfl ?_;intro g6 f4 w6 O I e3 e4)|fail)
   have HN:Hid (∃e5,Bl w w6/\w6.ownsRow w.heap.size 25 1 (.slice (some ⟨g6,0,none⟩) (j+1) f4) (j+1) e5/\∀i,i < j+1->IS w (e5.getD i undef) (tl.getD i qC).vs):=hid ⟨us++[.slice a0 nv k0],(a6.out.alloc e9 _).grown I (by simp;omega) (λq hq=>(a7.out.lt q hq).1),O,λi hi=>by
    by_cases e:i < j
    ·rw[gD,aL (by rw[a8.out];exact e),<-gD];exact HU.out i e
    ·obtain rfl:i=j:=Oo;rw[gD,bX (by rw[a8.out];exact bK _),a8.out,Nat.sub_self];exact d9.out⟩
   clear O I e3 e4 a6 a7;go_roundw
   case rel=>exact⟨j+1,_,Oo,Gg,rfl,HN⟩
   case measure=>simp[intOf];omega
  ·obtain rfl:j=n:=Oo;have i1:¬((j:Int) < (j:Int)):=Oo;have HF:=hid (HE.out wr vv us HB.out HO.out HU.out);clear HC HE HO HU;go_wp2_with fail
   go_ret;exact⟨vv,rfl,HF.out,HB.out⟩
def z7(tl:List TbV)(o:List Int):List (List Int):=o.map λx=>plc (λi=>decide (x∈(tl.map TbV.vs).getD i [])) (tl.map TbV.vs).length
theorem ZJ(w:World)(vt vo:Value)(tl:List TbV)(o:List Int)(h:ITs w vt tl)(ho:IS w vo o)(hl:tl.length<=1000)(e7:o.length<=1000)(b9:∀t∈tl,t.vs.length<=1000):
 Cl 68 #[vo,vt] w λe w'=>∃v us,e=.returned v/\RQ w' w.heap.size v us (z7 tl o)/\(∃g,v.ownBlock=some g)/\Bl w w':=by
 obtain⟨iS,V,c7,c8,c9⟩:=info_parts Tryz.infoIS;have KE:Hid (∀W,Bl w W->Cl 109 #[vt] W λe w'=>∃v,e=.returned v/\ISS w' v (tl.map TbV.vs)/\Bl W w'):=hid λW hW=>VO W vt tl (h.below hW) Oo
 have KW:Hid (∀W v x,ISS W v (tl.map TbV.vs)->Cl 51 #[.int .i64 x,v] W λe w'=>∃v',e=.returned v'/\w'.ownsRow W.heap.size 3 1 v' (plc (λi=>decide (x∈(tl.map TbV.vs).getD i [])) (tl.map TbV.vs).length).length ((plc (λi=>decide (x∈(tl.map TbV.vs).getD i [])) (tl.map TbV.vs).length).map (Value.int .i64))/\Bl W w'):=hid λW v x hv=>yi W v x _ hv ⟨by rw[lM];omega,λj=>by
  rw[gD,bN];cases e:tl[j]? with
  |none=>exact nZ _
  |some t=>have:=b9 t (List.mem_of_getElem? e);show t.vs.length<=_;omega⟩
 obtain⟨at',ct,rfl,-⟩:=h;obtain⟨ao,co,rfl,d0⟩:=ho
 have HC:Hid (∀W,Bl w W->∀j,j < o.length->∃b oo,ao=some ⟨b,oo,none⟩/\W.cell? ⟨b,oo+j,none⟩=some (.int .i64 (o.getD j 0))):=hid λW hW j V=>by
  rcases d0 with h0|⟨b,oo,rfl,h⟩
  ·omega
  ·exact⟨b,oo,rfl,uE hW (h j V)⟩
 have HP:Hid (∀j,j < o.length->z7 tl (o.take (j+1))=z7 tl (o.take j)++[plc (λi=>decide (o.getD j 0∈(tl.map TbV.vs).getD i [])) (tl.map TbV.vs).length]):=hid λj V=>by
  unfold z7;rw[zA V,mA];rfl
 have a4:Hid (∀j,j<=o.length->(z7 tl (o.take j)).length=j):=hid λj V=>by unfold z7;rw[lM,bZ];omega
 have a8:Hid (z7 tl (o.take o.length)=z7 tl o):=hid (by rw[tL]);have e8:Hid (z7 tl (o.take 0)=[]):=hid rfl;obtain⟨n,hn⟩:∃n,n=o.length:=⟨_,rfl⟩;rw[<-hn]at e7 HC HP a4 a8 ⊢;clear hn d0 b9;obtain⟨nT,d6⟩:∃nT,nT=tl.length:=⟨_,rfl⟩;rw[<-d6]at hl KE ⊢;clear d6;obtain⟨Wm,a6,K,a7⟩:=run_makeSlice_owned (P:=Tryz.prog) w w.heap.size 24 25 iS (.slice none 0 0) 1 Tryz.underlying24 V c7 c8 .i64 .i64 n Oo (by rw[c9];omega) (by unfold maxLen;omega) Oo;have e9:Sem.run Tryz.prog (Instr.makeSlice 24 (.int .i64 0) (.int .i64 (n:Int))) w=.ok (.slice (some ⟨w.heap.size,0,none⟩) 0 n) Wm:=a6;have d7:Bl w Wm:=(bM _ _).grown a7 (bK _) (λk hk=>by cases hk);have d8:=hid d7;have d9:=hid K;clear a6 K a7 d7;go_enter Tryz.func68,Tryz.ntmps68
 go_upto_block 0 with fail
 clear e9;go_wp2_with fail
 go_loopw [5,13] (λu t wr=>∃(j:Nat) (vv:Value),j<=n/\t=.int .i64 j/\vv=u/\Hid (∃us,Bl w wr/\RQ wr w.heap.size vv us (z7 tl (o.take j))/\∃g,vv.ownBlock=some g)) (λ_ t _=>n - (intOf t).toNat)
 case atStart=>exact⟨0,_,nZ _,rfl,rfl,hid ⟨[],d8.out,(by rw[e8.out];exact⟨d9.out,rfl,λi hi=>by simp at hi,λi j _ V=>by simp at V⟩),_,rfl⟩⟩
 case round=>
  clear d8 d9;obtain⟨j,vv,f4,rfl,rfl,HT⟩:=hrel;obtain⟨us,hB,hQ,hg⟩:=HT.out;have HG:=hid hg;have HB:=hid hB;have HQ:=hid hQ;clear HT hB hQ hg;by_cases e0:j < n
  ·have i1:(j:Int) < (n:Int):=Oo;obtain⟨b,oo,ea,c1⟩:=HC.out wr HB.out j e0;subst ea;have f7:=hid (HP.out j e0);have e1:=a4.out j f4;have f8:=hid (KE.out wr HB.out);have f9:Hid (∀W v,ISS W v (tl.map TbV.vs)->_):=hid λW v hv=>KW.out W v (o.getD j 0) hv;generalize plc (λi=>decide (o.getD j 0∈(tl.map TbV.vs).getD i [])) (tl.map TbV.vs).length=pj at *;generalize o.getD j 0=ov at *;clear HC HP a4 KE KW
   go_wp2_with (first
    |(go_at_call 109;refine f8.out.mono ?_;rintro e w2 ⟨v2,rfl,e2,M⟩)
    |(go_at_call 51;refine(f9.out w2 v2 e2).mono ?_;rintro e w3 ⟨v3,rfl,a5,a9⟩;have b0:=HQ.out.below (bt M a9);have b7:=bt HB.out (bt M a9);have g2:=b7.size;have O:w3.ownsRow w.heap.size 25 1 vv j us:=(by have:=b0.own;rw[e1]at this;exact this);obtain⟨a3,k3,e3⟩:=jG a5;subst e3)
    |(at_builtin;refine wpList_append_lies _ rfl _ _ 24 rfl w.heap.size 25 iS (.slice none 0 0) 1 24 Tryz.underlying24 V c7 c8 c9 rfl Dd vv _ us rfl (O.alloc _) ⟨_,0,none⟩ 1 1 [.slice a3 pj.length k3] rfl rfl (qH _ _ _) (λu hu=>by simp at hu;subst hu;rfl) Dd (by unfold maxLen;omega) Oo (by simp;omega) _ rfl ?_;intro g6 e4 w6 U I e5 e6)
    |fail)
   have HN:Hid (∃g4,Bl w w6/\RQ w6 w.heap.size (.slice (some ⟨g6,0,none⟩) (j+1) e4) g4 (z7 tl (o.take (j+1)))/\∃g,(Value.slice (some ⟨g6,0,none⟩) (j+1) e4).ownBlock=some g):=hid ⟨us++[.slice a3 pj.length k3],(b7.alloc g2 _).grown I (by simp;omega) (λq hq=>(O.lt q hq).1),(by
    rw[f7.out]
    exact b0.step (qF a5 (bQ HB.out.size M.size)) (λi hi g h1 h2=>by
     have a1:=((HQ.out.each i hi).lt g h1).2;have a2:=(a5.lt g h2).1;have:=M.size;omega) (by rw[e1];exact U) I),_,rfl⟩
   clear U I e5 e6 b0 b7 O a5 e2 M a9;go_roundw
   case rel=>exact⟨j+1,_,Oo,Gg,rfl,HN⟩
   case measure=>simp[intOf];omega
  ·obtain rfl:j=n:=Oo;have i1:¬((j:Int) < (j:Int)):=Oo;rw[a8.out]at HQ;clear HC KE KW HP a4 a8;go_wp2_with fail
   go_ret;exact⟨vv,rfl,⟨us,HQ.out⟩,HG.out,HB.out⟩
structure JMx(x:JX)(nxt:List Int->List Int)(no:Nat):Prop where
 mem:∀t,t < x.nT->∀q,x.D t q->∀y,y∈x.N t q↔x.D t (q++[y])
 asc:∀t,t < x.nT->∀q,x.D t q->(x.N t q).Pairwise (·< ·)
 len:∀t,t < x.nT->∀q,x.D t q->(x.N t q).length<=1000000
 lT:x.nT<=1000
 lo:no<=1000
 hl:x.hav.length=no
 hav:∀k,k < no->x.hav.getD k []=plc (λt=>x.H t k) x.nT
 some:∀k,k < no->∃t,t < x.nT/\x.H t k=true
 more:∀p,p.length < no->(∀t,t < x.nT->x.D t (prt (x.H t) p))->∀t,t < x.nT->x.H t p.length=true->0 < (x.N t (prt (x.H t) p)).length
 nx:∀p,p.length < no->(∀t,t < x.nT->x.D t (prt (x.H t) p))->∀g,g < x.nT->x.H g p.length=true->nxt p=(x.N g (prt (x.H g) p)).filter λy=>(plc (λt=>x.H t p.length) x.nT).all λt=>decide (y∈x.N t.toNat (prt (x.H t.toNat) p))
def JX.Hd(x:JX)(p:List Int):Prop:=∀t,t < x.nT->x.D t (prt (x.H t) p)
def JX.tk(x:JX)(p:List Int)(j:Nat):Nat:=((plc (λt=>x.H t p.length) x.nT).getD j 0).toNat
def JX.nh(x:JX)(p:List Int):Nat:=(plc (λt=>x.H t p.length) x.nT).length
def JX.nd(x:JX)(p:List Int)(j:Nat):Nat:=x.f (x.tk p j) (prt (x.H (x.tk p j)) p)
def JX.vl(x:JX)(p:List Int)(j:Nat):List Int:=x.N (x.tk p j) (prt (x.H (x.tk p j)) p)
theorem JX.tk_ok(x:JX)(p:List Int){j:Nat}(K:j < x.nh p):x.tk p j < x.nT/\x.H (x.tk p j) p.length=true/\(plc (λt=>x.H t p.length) x.nT).getD j 0=(x.tk p j:Int):=by
 have I:(plc (λt=>x.H t p.length) x.nT).getD j 0∈plc (λt=>x.H t p.length) x.nT:=xz K;unfold plc at I;obtain⟨i,hi,e⟩:=List.mem_map.1 I;obtain⟨M,O⟩:=List.mem_filter.1 hi
 have U:x.tk p j=i:=by
  unfold JX.tk;unfold plc;rw[<-e];rfl
 rw[U];exact⟨List.mem_range.1 M,O,by unfold plc;exact e.symm⟩
theorem JX.tk_all(x:JX)(p:List Int){t:Nat}(I:t < x.nT)(K:x.H t p.length=true):∃j,j < x.nh p/\x.tk p j=t:=by
 have M:(t:Int)∈plc (λt=>x.H t p.length) x.nT:=by
  unfold plc;exact List.mem_map.2 ⟨t,List.mem_filter.2 ⟨List.mem_range.2 I,K⟩,rfl⟩
 obtain⟨j,O,e⟩:=zz M;exact⟨j,O,by unfold JX.tk;rw[e];omega⟩
def JX.all(x:JX)(p:List Int)(y:Int):Bool:=(List.range (x.nh p)).all λj=>decide (y∈x.vl p j)
theorem JX.all_eq(x:JX)(p:List Int)(y:Int):((plc (λt=>x.H t p.length) x.nT).all λt=>decide (y∈x.N t.toNat (prt (x.H t.toNat) p)))=x.all p y:=by
 rw[Bool.eq_iff_iff,bY];unfold JX.all;rw[bY];constructor
 ·intro h j I;exact h _ (xz (List.mem_range.1 I))
 ·intro h t K;obtain⟨j,I,e⟩:=zz K;have:=h j (List.mem_range.2 I);unfold JX.vl JX.tk at this;rw[e]at this;exact this
def PlJq(x:JX)(p:List Int)(q:Nat->Nat)(j:Nat)(y:Int):Prop:=q j < (x.vl p j).length/\∀m,m < q j->(x.vl p j).getD m 0 < y
structure LG(x:JX)(B:Nat)(wr:World)(bB bH cu cc:Nat)(vp vb vt:Value)(p:List Int)(q:Nat->Nat):Prop where
 dat:Dat x wr
 brn:Brn x x.n0 wr vp vb p
 bx:BrX wr bB vp vb
 lB:x.n0<=bB
 bh:wr.heap[bH]?=some (.cells #[vt] 25 (0,0))
 lH:x.n0<=bH
 nr:¬RBk x wr bH
 hB:x.n0<=B
 cur:wr.ownsRow B 182 2 (.slice (some ⟨cu,0,none⟩) (x.nh p) cc) (x.nh p) (yd (x.nd p) q (x.nh p))
section
variable {x:JX} {B:Nat} {X Y:World} {bB bH cu cc:Nat} {vp vb vt:Value} {p:List Int} {q:Nat->Nat}
theorem LG.below(h:LG x B X bB bH cu cc vp vb vt p q)(I:x.Ok)(hb:Bl X Y):LG x B Y bB bH cu cc vp vb vt p q:=by
 have M:=h.bx.lt;have K:KT x.n0 X Y:=KT.of_below hb (by have:=h.lB;omega);exact⟨h.dat.kt K I,h.brn.below hb,h.bx.below hb,h.lB,(hb.block _ (qP h.bh)).trans h.bh,h.lH,λO=>h.nr ((RBk.eq (K.bel.block _ I.r) _).1 O),h.hB,qB h.cur hb⟩
theorem LG.kp{S:Nat->Prop}(h:LG x B X bB bH cu cc vp vb vt p q)(K:x.Ok)(I:KpS x S X Y):LG x B Y bB bH cu cc vp vb vt p q:=by
 have hs:=I.sb K h.dat.ty;refine⟨h.dat.kp I K,h.brn.sb hs (bK _),(hs.same _ _ _ _ h.lB h.bx Dd Dd (Or.inl Dd)).trans h.bx,h.lB,(hs.same _ _ _ _ h.lH h.bh Dd Dd (Or.inr h.nr)).trans h.bh,h.lH,I.nr (qP h.bh) h.nr,h.hB,qA h.cur λg O=>?_⟩;obtain⟨cur,M⟩:=qO h.cur O;exact(I.same g _ M (Or.inl rfl) (KpS.not K h.dat.ty (bQ h.hB (h.cur.lt g O).1) M (Or.inl Dd))).trans M.symm
theorem qDA(nd q:Nat->Nat)(n i v:Nat)(hi:i < n):(yd nd q n).set (i*2+1) (.int .i64 v)=yd nd (λj=>if j=i then v else q j) n:=by
 induction n with
 |zero=>omega
 |succ n ih=>
  rw[vg,vg];by_cases e:i < n
  ·rw[List.set_append_left _ _ (by rw[xr];omega),ih e,if_neg Oo]
  ·obtain rfl:i=n:=Oo;rw[List.set_append_right _ _ (by rw[xr];omega),xr,if_pos rfl,show i*2+1 - i*2=1 by omega];congr 1;unfold yd;simp only[List.flatMap];congr 1;refine List.map_congr_left λj I=>?_;rw[if_neg (by have:=List.mem_range.1 I;omega)]
theorem LG.seek(h:LG x B X bB bH cu cc vp vb vt p q)(O:x.Ok)(hi:i < x.nh p)(v:Nat):LG x B (X.setCell ⟨cu,i*2+1,none⟩ (.int .i64 v)) bB bH cu cc vp vb vt p (λj=>if j=i then v else q j)/\KT B X (X.setCell ⟨cu,i*2+1,none⟩ (.int .i64 v)):=by
 obtain⟨cur,U⟩:=qO h.cur (g:=cu) rfl;have K:=(h.cur.lt cu rfl).1;have I:KT B X (X.setCell ⟨cu,i*2+1,none⟩ (.int .i64 v)):=KT.set _ K U (Or.inl rfl);have M:=I.mono h.hB;have hs:=M.sb (x:=x);refine⟨⟨h.dat.kt M O,h.brn.sb hs (bK _),(hs.same _ _ _ _ h.lB h.bx Dd Dd (Or.inl Dd)).trans h.bx,h.lB,(hs.same _ _ _ _ h.lH h.bh Dd Dd (Or.inr h.nr)).trans h.bh,h.lH,λV=>h.nr ((RBk.eq (M.bel.block _ O.r) _).1 V),h.hB,?_⟩,I⟩;have:=(h.cur.stored (i*2+1) (.int .i64 v)).1;rw[qDA _ _ _ _ _ hi]at this;exact this
theorem LG.cq(h:LG x B X bB bH cu cc vp vb vt p q){nxt:List Int->List Int}{no:Nat}(hm:JMx x nxt no)(hp:p.length < no)(hd:x.Hd p)(hi:i < x.nh p):∃fb cap U cb,Cq X cu (i*2) (x.nd p i) fb cap (.slice (some ⟨U,0,none⟩) (x.vl p i).length cb) (x.vl p i) (q i)/\(x.vl p i).length<=cap/\
 ∀j,j < (x.vl p i).length->X.cell? ⟨U,j,none⟩=some (.pointer (some ⟨x.f (x.tk p i) (prt (x.H (x.tk p i)) p++[(x.vl p i).getD j 0]),0,none⟩)):=by
 obtain⟨h1,h2,-⟩:=x.tk_ok p hi;have V:=h.dat.tr _ h1;have hD:=hd _ h1;have h0:=hm.more p hp hd _ h1 h2;have K:=V.o0 _ hD;have M:=V.o1 _ hD;obtain⟨ga,ca,ea,-⟩:=x6 K h0;obtain⟨U,cb,eb,-⟩:=x6 M h0
 have a2:(x.vl p i).length<=ca:=by
  rcases K.2 with ⟨-,h2⟩|⟨g,cap,cur,e,-,-,hn,-⟩
  ·exact absurd h2 Oo
  ·rw[ea]at e;simp only[Value.slice.injEq]at e;have:(x.vl p i).length<=cap:=hn;omega
 obtain⟨g1,g2⟩:=Ua (x.nd p) q (x.nh p) i hi;refine⟨ga,ca,U,cb,⟨?_,?_,?_,?_,?_,λj O=>?_⟩,a2,λj O=>?_⟩
 ·rw[h.cur.cellAt (i*2) Oo];exact g1
 ·rw[h.cur.cellAt (i*2+1) Oo];exact g2
 ·exact h.cur.frozenAt _
 ·have:=V.c0 hD;rw[ea]at this;exact this
 ·have:=V.c1 hD;rw[eb]at this;exact this
 ·have I:j < (x.N (x.tk p i) (prt (x.H (x.tk p i)) p)).length:=O;obtain⟨g,c,e,h3⟩:=x6 K O;rw[ea]at e;simp only[Value.slice.injEq,Option.some.injEq,Addr.mk.injEq]at e;rw[e.1.1,h3,bN,bC I];show _=some (Value.int .i64 ((x.N (x.tk p i) (prt (x.H (x.tk p i)) p)).getD j 0));rw[gD,bC I];rfl
 ·have I:j < (x.N (x.tk p i) (prt (x.H (x.tk p i)) p)).length:=O;obtain⟨g,c,e,h3⟩:=x6 M O;rw[eb]at e;simp only[Value.slice.injEq,Option.some.injEq,Addr.mk.injEq]at e;rw[e.1.1,h3,bN,bC I];show _=some (Value.pointer (some ⟨x.f (x.tk p i) (prt (x.H (x.tk p i)) p++[(x.N (x.tk p i) (prt (x.H (x.tk p i)) p)).getD j 0]),0,none⟩));rw[gD,bC I];rfl
end
def TrO(B:Nat)(W:World)(rows:List (List Int))(c:Option Addr):Prop:=rows=[]/\c=none∨rows≠[]/\∃D N f g0 g1,c=some ⟨f [],0,none⟩/\TM rows D N/\TR W B D N N f g0 g1/\∀p,D p->(N p).length<=rows.length
theorem TR.move{D:List Int->Prop}{N0 N1:List Int->List Int}{f:List Int->Nat}{g0 g1:List Int->Value}(h:TR W B D N0 N1 f g0 g1)(K:∀k,B<=k->k < W.heap.size->W'.heap[k]?=W.heap[k]?):TR W' B D N0 N1 f g0 g1:=
 ⟨λp hp=>(K _ (h.low p hp) (h.lt hp)).trans (h.blk p hp),h.low,λp hp=>qA (h.o0 p hp) λg I=>K g ((h.o0 p hp).lt g I).1 ((h.o0 p hp).lt g I).2,λp hp=>qA (h.o1 p hp) λg I=>K g ((h.o1 p hp).lt g I).1 ((h.o1 p hp).lt g I).2,h.inj,h.a0,h.a1⟩
def ElT(B bx:Nat)(v:Value)(W:World)(rows:List (List Int))(c:Option Addr):Prop:=∀W',(∀k,k < W.heap.size->v.ownBlock≠some k->k≠bx->W'.heap[k]?=W.heap[k]?)->TrO B W' rows c
structure RtS(W:World)(B bx:Nat)(v:Value)(rl:List (List (List Int)))(cs:List (Option Addr)):Prop where
 own:W.ownsRow B 123 1 v rl.length (cs.map Value.pointer)
 len:cs.length=rl.length
 el:∀t,t < rl.length->ElT B bx v W (rl.getD t []) (cs.getD t none)
theorem RtS.below{bx:Nat}{v:Value}{rl:List (List (List Int))}{cs:List (Option Addr)}(h:RtS W B bx v rl cs)(hb:Bl W W'):RtS W' B bx v rl cs:=
 ⟨qB h.own hb,h.len,λt K X M=>h.el t K X λk I O U=>by rw[M k (bV I hb.size) O U];exact hb.block k I⟩
theorem RtS.push{wr:World}{bx:Nat}{v:Value}{rl:List (List (List Int))}{cs:List (Option Addr)}{rows:List (List Int)}{U:Option Addr}(h:RtS wr B bx v rl cs)(hB:B<=wr.heap.size)(b0:bx < wr.heap.size)(hb:Bl wr W)(he:TrO wr.heap.size W rows U)(hg:(W.alloc o).grownBy w3 v.ownBlock)
 (a2:w3.ownsRow B 123 1 (.slice (some ⟨g,0,none⟩) (rl.length+1) c) (rl.length+1) (cs.map Value.pointer++[.pointer U])) (M:v.ownBlock=some g∨g=(W.alloc o).heap.size) (a4:g≠bx):
 RtS (w3.setCell ⟨bx,1,none⟩ y) B bx (.slice (some ⟨g,0,none⟩) (rl.length+1) c) (rl++[rows]) (cs++[U]):=by
 have hs:=hb.size;have a5:=hg.size;rw[World.size_alloc]at a5 M;have a6:(w3.setCell ⟨bx,1,none⟩ y).heap.size=w3.heap.size:=by simp[World.setCell]
 refine⟨?_,by simp[h.len],λt ht W' a7=>?_⟩
 ·rw[lA,lS,mA];refine qA a2 λk O=>bE _ _ _ _ λe=>?_;have:k=g:=by simpa[Value.ownBlock]using O.symm
  exact a4 (this.symm.trans e)
 have key:∀k,k < W.heap.size->v.ownBlock≠some k->g≠k->k≠bx->W'.heap[k]?=W.heap[k]?:=λk O I K V=>by
  rw[a7 k (by rw[a6];omega) (λe=>K (by simpa[Value.ownBlock]using e)) V,bE _ _ _ _ (by exact V),hg.block k (by rw[World.size_alloc];omega) (λe=>I e.symm)];exact Below.heap_alloc _ _ _ O
 have a3:∀k,v.ownBlock=some k->k < wr.heap.size:=λk O=>(h.own.lt k O).2;rw[lA,lS]at ht;by_cases e:t < rl.length
 ·have e1:(rl++[rows]).getD t []=rl.getD t []:=by rw[gD,aL e,<-gD]
  have e2:(cs++[U]).getD t none=cs.getD t none:=by rw[gD,aL (by rw[h.len];exact e),<-gD]
  rw[e1,e2];refine h.el t e W' λk O I V=>?_;rw[key k Oo I (λe=>?_) V]
  ·exact hb.block k O
  ·subst e;rcases M with K|K
   ·exact I K
   ·omega
 ·have a8:t=rl.length:=Oo;subst a8;have e1:(rl++[rows]).getD rl.length []=rows:=by rw[gD,bX (bK _),Nat.sub_self];rfl
  have e2:(cs++[U]).getD rl.length none=U:=by rw[gD,bX (by rw[h.len];exact bK _),h.len,Nat.sub_self];rfl
  rw[e1,e2];rcases he with ⟨I,K⟩|⟨I,D,N,f,g0,g1,K,V,h4,h5⟩
  ·exact Or.inl ⟨I,K⟩
  ·refine Or.inr ⟨I,D,N,f,g0,g1,K,V,(h4.move λk b7 a9=>key k a9 (λe=>?_) (λe=>?_) Oo).base hB,h5⟩
   ·have:=a3 k e;omega
   ·subst e;rcases M with h6|h6
    ·have:=a3 _ h6;omega
    ·omega
def plO(vs:List Int)(o:List Int):List Int:=(o.filter λv=>decide (v∈vs)).map λv=>(bsQ vs v:Int)
theorem qC1(vs o:List Int)(v:Int):plO vs (o++[v])=plO vs o++(if v∈vs then [(bsQ vs v:Int)] else []):=by
 unfold plO;rw[List.filter_append,mA];congr 1;by_cases h:v∈vs
 ·rw[if_pos h];simp[h]
 ·rw[if_neg h];simp[h]
theorem qEZ(K:vs.Pairwise (·< ·))(v:Int):bsF vs v=decide (v∈vs):=by
 unfold bsF;by_cases h:v∈vs
 ·obtain⟨I,M⟩:=JW (uv K) h;rw[decide_eq_true h,decide_eq_true I,decide_eq_true M];rfl
 ·rw[decide_eq_false h];by_cases I:bsQ vs v < vs.length
  ·rw[decide_eq_true I,decide_eq_false (qE4 h I)];rfl
  ·rw[decide_eq_false I];rfl
theorem qFe{o:List Int}(I:vs.Pairwise (·< ·)):∀q∈plO vs o,0<=q/\q < vs.length:=λq hq=>by
 obtain⟨v,hv,rfl⟩:=List.mem_map.1 hq;have:=(JW (uv I) (of_decide_eq_true (List.mem_filter.1 hv).2)).1;omega
theorem qC2{o:List Int}(I:vs.Pairwise (·< ·))(rows:List (List Int)):xD rows (plO vs o)=rows.map (qp vs (shr o vs)):=by
 unfold xD;refine List.map_congr_left λr _=>?_;unfold atP plO qp shr;rw[List.map_map];refine List.map_congr_left λv hv=>?_;obtain⟨K,M⟩:=JW (uv I) (of_decide_eq_true (List.mem_filter.1 hv).2);show r.getD ((bsQ vs v:Int)).toNat 0=vlF vs r v;rw[show((bsQ vs v:Int)).toNat=bsQ vs v by omega];have:=U9 vs r (bsQ vs v) I K;rw[M]at this;exact this.symm
end Go.Proofs.YtkaipapdlnojiaaGreat
