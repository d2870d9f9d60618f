import Derived.Test.YtkaipapdlnojiaaGreatWq27
set_option maxHeartbeats 40000000
set_option maxRecDepth 1000000
namespace Go.Proofs.YtkaipapdlnojiaaGreat
open Go.RowKit Meet
variable {x:Int}{rs:List (List Int)}{l r:List Int}{D:List Int->Prop}{K c fb i j node o p root tb:Nat}{v1:Value}{W W0 w w3:World}
structure Cq(w:World)(c o tb fb cap:Nat)(v1:Value)(l:List Int)(p:Nat):Prop where
 ptr:w.cell? ⟨c,o,none⟩=some (.pointer (some ⟨tb,0,none⟩))
 pl:w.cell? ⟨c,o+1,none⟩=some (.int .i64 p)
 fz:w.frozen? ⟨c,o+1,none⟩=false
 val:w.cell? ⟨tb,0,none⟩=some (.slice (some ⟨fb,0,none⟩) l.length cap)
 bel:w.cell? ⟨tb,1,none⟩=some v1
 own:∀j,j < l.length->w.cell? ⟨fb,j,none⟩=some (.int .i64 (l.getD j 0))
theorem Cq.drewN{cap:Nat}(h:Cq w c o tb fb cap v1 l p)(d:Nat):Cq (w.drewN d) c o tb fb cap v1 l p:=⟨h.ptr,h.pl,h.fz,h.val,h.bel,h.own⟩
theorem JT(w:World)(c o tb fb cap:Nat)(v1:Value)(l:List Int)(p:Nat)(h:Cq w c o tb fb cap v1 l p):
 Cl 133 #[.pointer (some ⟨c,o,none⟩)] w λe w'=>e=.returned (.bool (decide (p=l.length)))/\∃d,w'=w.drewN d:=by
 have I:=h.ptr;have K:=h.pl;have M:=h.val;rw[<-YF];generalize l.length=n at *;clear h;go_enter Tryz.func133,Tryz.ntmps133
 go_wp2_with fail
 go_quiet (fail)
 go_wp2;go_ret;exact⟨qI (by first|rfl|simp),_,rfl⟩
theorem JU(w:World)(c o tb fb cap:Nat)(v1:Value)(l:List Int)(p:Nat)(h:Cq w c o tb fb cap v1 l p)(hp:p < l.length):
 Cl 134 #[.pointer (some ⟨c,o,none⟩)] w λe w'=>e=.returned (.int .i64 (l.getD p 0))/\∃d,w'=w.drewN d:=by
 have I:=h.ptr;have K:=h.pl;have M:=h.val;have O:=h.own p hp;have U:(p:Int) < (l.length:Int):=Oo;generalize l.getD p 0=x at *;generalize l.length=n at *;clear h;go_enter Tryz.func134,Tryz.ntmps134
 go_wp2_with fail
 go_quiet (fail)
 go_wp2;go_ret;exact⟨rfl,_,rfl⟩
theorem JV(w:World)(c o tb fb cap I n K:Nat)(l:List Int)(p:Nat)(y:Value)(h:Cq w c o tb fb cap (.slice (some ⟨I,0,none⟩) n K) l p)(hp:p < n)(M:w.cell? ⟨I,p,none⟩=some y):
 Cl 152 #[.pointer (some ⟨c,o,none⟩)] w λe w'=>e=.returned y/\∃d,w'=w.drewN d:=by
 have O:=h.ptr;have U:=h.pl;have V:=h.bel;have i1:(p:Int) < (n:Int):=Oo;clear h;go_enter Tryz.func152,Tryz.ntmps152
 go_wp2_with fail
 go_quiet (fail)
 go_wp2;go_ret;exact⟨rfl,_,rfl⟩
theorem Cq.is_from{k:Nat}(h:Cq w c o tb fb k v1 l p)(hp:p < l.length)(cap:Nat):IS w (.slice (some ⟨fb,p,none⟩) (l.length - p) cap) (l.drop p):=by
 refine⟨_,cap,by rw[List.length_drop],Or.inr ⟨fb,p,rfl,λj I=>?_⟩⟩;rw[List.length_drop]at I;rw[h.own (p+j) Oo,gD,gD,List.getElem?_drop]
theorem Ki(w:World)(c o tb fb cap:Nat)(v1:Value)(l:List Int)(p:Nat)(g:Int)(h:Cq w c o tb fb cap v1 l p)(hl:l.length<=1099511627776)(M:l.length<=cap)(I:p < l.length)(K:Asc l):
 Cl 132 #[.pointer (some ⟨c,o,none⟩),.int .i64 g] w λe w'=>(∃v,e=.returned v)/\∃d,w'=(w.drewN d).setCell ⟨c,o+1,none⟩ (.int .i64 (p+bsQ (l.drop p) g:Nat)):=by
 have U:=h.ptr;have V:=h.pl;have h3:=h.val;have h4:=h.fz;have hq:=(ZT (Xf K p) g).1;rw[List.length_drop]at hq
 have O:Hid (∀q cap,Cl 104 #[.slice (some ⟨fb,p,none⟩) (l.length - p) cap,.int .i64 g] (w.drewN q) λe w'=>e=.returned (.tuple #[.int .i64 (bsQ (l.drop p) g),.bool (bsF (l.drop p) g)])/\∃d,w'=(w.drewN q).drewN d):=hid (λq cap=>
  ke (w.drewN q) _ (l.drop p) g ((h.drewN q).is_from I cap) (by rw[List.length_drop];omega) (Xf K p))
 have i1:(p:Int)<=(l.length:Int):=Oo;generalize bsQ (l.drop p) g=k at *;generalize bsF (l.drop p) g=kf at *;generalize l.length=n at *;clear h K;go_enter Tryz.func132,Tryz.ntmps132
 go_wp2_with fail
 go_quiet ((go_at_call 104;exact Calls.quiet_of (O.out _ _)))
 go_wp2;go_end0
 exact⟨⟨_,rfl⟩,_,by rw[Int.natCast_add]⟩
theorem uv(h:l.Pairwise (·< ·)):Asc l:=λi j I K=>by
 have:=List.pairwise_iff_getElem.1 h i j Oo K I;rw[gD,gD,bC Oo,bC K];exact this
theorem JW(I:Asc l)(M:x∈l):bsQ l x < l.length/\l.getD (bsQ l x) 0=x:=by
 obtain⟨V,O,U⟩:=ZT (jJ I) x;obtain⟨j,K,e⟩:=gO M;have ej:l.getD j 0=x:=by rw[gD,bC K,e];rfl
 have hq:bsQ l x<=j:=by
  rcases Nat.lt_or_ge j (bsQ l x)with h|h
  ·have:=O j h;omega
  ·exact h
 refine⟨Oo,?_⟩;have h4:=U (bsQ l x) (bK _) Oo;have h5:=jJ I (bsQ l x) j hq K;omega
theorem qE4(I:x∉l)(h:bsQ l x < l.length):l.getD (bsQ l x) 0≠x:=λe=>I (by
 rw[<-e,gD,bC h];exact gM _)
theorem Tryz.infoTrieP:(Tryz.prog.info? 123).map (λi=>(i.zero,i.size,i.bytes))=some (some (.pointer none),1,8):=by kernel_rfl
theorem XQ{B n s:Nat}{e:TypeId}{v:Value}{xs:List Value}(h:w.ownsRow B e s v n xs):∃a cap,v=.slice a n cap:=by
 rcases h.2 with ⟨rfl,I⟩|⟨g,cap,cur,rfl,_⟩
 ·exact⟨none,0,by rw[I]⟩
 ·exact⟨_,cap,rfl⟩
def TS(W0 W:World)(rs:List (List Int))(K root:Nat):Prop:=∃D N f g0 g1,TM rs D N/\TR W W0.heap.size D N N f g0 g1/\f []=root/\(∀p,D p->(N p).length<=K)/\Bl W0 W
def LST(W0 W:World)(rs:List (List Int))(r:List Int)(i K root node:Nat):Prop:=∃D N f g0 g1,TM (rs++[r.take i]) D N/\TR W W0.heap.size D N N f g0 g1/\f []=root/\f (r.take i)=node/\(∀p,D p->(N p).length<=K+1/\(i<=p.length->(N p).length<=K))/\Bl W0 W
theorem LST.start(r:List Int)(h:TS W0 W rs K root):LST W0 W rs r 0 K root root:=by
 obtain⟨D,N,f,g0,g1,M,O,hr,I,hb⟩:=h;exact⟨D,N,f,g0,g1,M.begin,O,hr,hr,λp hp=>⟨by have:=I p hp;omega,λ_=>I p hp⟩,hb⟩
theorem LST.done(h:LST W0 W rs r r.length K root node):TS W0 W (rs++[r]) (K+1) root:=by
 obtain⟨D,N,f,g0,g1,I,M,hr,-,O,hb⟩:=h;exact⟨D,N,f,g0,g1,I.done,M,hr,λp hp=>(O p hp).1,hb⟩
theorem LST.hit(h:LST W0 W rs r i K root node)(hi:i < r.length)(hs:∀s∈rs,cmpL s r < 0):
 (∃m ga ca gb cb nx,W.cell? ⟨node,0,none⟩=some (.slice (some ⟨ga,0,none⟩) (m+1) ca)/\W.cell? ⟨node,1,none⟩=some (.slice (some ⟨gb,0,none⟩) (m+1) cb)/\W.cell? ⟨ga,m,none⟩=some (.int .i64 (r.getD i 0))/\W.cell? ⟨gb,m,none⟩=some (.pointer (some ⟨nx,0,none⟩))/\m+1<=K/\LST W0 W rs r (i+1) K root nx)
 ∨(∃D N f g0 g1,r.getD i 0∉N (r.take i)/\TM (rs++[r.take i]) D N/\TR W W0.heap.size D N N f g0 g1/\f []=root/\f (r.take i)=node/\(∀p,D p->(N p).length<=K+1/\(i<=p.length->(N p).length<=K))/\Bl W0 W):=by
 obtain⟨D,N,f,g0,g1,U,M,hr,I,hk,hb⟩:=h;have O:=U.here;by_cases hx:r.getD i 0∈N (r.take i)
 ·refine Or.inl ?_;obtain⟨h0,h1⟩:=qE6 (U.asc _ O) hx (U.le hi hs);obtain⟨m,hm⟩:∃m,(N (r.take i)).length=m+1:=⟨(N (r.take i)).length - 1,Oo⟩;rw[hm,Nat.add_sub_cancel]at h1
  have hg:(N (r.take i))[m]?=some (r.getD i 0):=by
   rw[gD,bC Oo,Option.getD_some]at h1;rw[bC Oo,h1]
  obtain⟨ga,ca,ea,V⟩:=x6 (M.o0 _ O) (j:=m) Oo;obtain⟨gb,cb,eb,a2⟩:=x6 (M.o1 _ O) (j:=m) Oo;rw[bN,hg]at V a2;have a3:=(hk _ O).2 (by rw[bZ];omega);refine⟨m,ga,ca,gb,cb,f (r.take i++[r.getD i 0]),?_,?_,V,a2,Oo,D,N,f,g0,g1,U.hit hi hx,M,hr,by rw[zA hi],λp hp=>⟨(hk p hp).1,λhl=>(hk p hp).2 Oo⟩,hb⟩
  ·rw[<-I,M.c0 O,ea,hm]
  ·rw[<-I,M.c1 O,eb,hm]
 ·exact Or.inr ⟨D,N,f,g0,g1,hx,U,M,hr,I,hk,hb⟩
theorem LST.miss{I:World}{N:List Int->List Int}{f:List Int->Nat}{g0 g1:List Int->Value}{v':Value}{o:Obj}(hi:i < r.length)(hs:∀s∈rs,cmpL s r < 0)(hx:r.getD i 0∉N (r.take i))(hM:TM (rs++[r.take i]) D N)
 (hT:TR I W0.heap.size D (λq=>if q=r.take i then N (r.take i)++[r.getD i 0] else N q) N f g0 g1) (hr:f []=root) (hk:∀p,D p->(N p).length<=K+1/\(i<=p.length->(N p).length<=K)) (hb:Bl W0 I)
 (M:w3.ownsRow W0.heap.size 123 1 v' ((N (r.take i)).length+1) (((N (r.take i)).map λx=>.pointer (some ⟨f (r.take i++[x]),0,none⟩))++[.pointer (some ⟨I.heap.size,0,none⟩)]))
 (hg:((I.alloc (.cells #[.slice none 0 0,.slice none 0 0] 173)).alloc o).grownBy w3 (g1 (r.take i)).ownBlock) (a2:∀g,v'.ownBlock=some g->(g1 (r.take i)).ownBlock=some g∨I.heap.size<=g):
 LST W0 (w3.setCell ⟨f (r.take i),1,none⟩ v') rs r (i+1) K root I.heap.size:=by
 have O:=hM.here;have U:¬D (r.take i++[r.getD i 0]):=λhd=>hx ((hM.mem _ O _).2 hd);have a3:=hb.size
 have a4:=hT.belw O U hx hb.size (N0':=uw N (r.take i) (r.getD i 0)) (λq hq=>by
  unfold uw;by_cases e:q=r.take i
  ·rw[if_pos e,if_pos e]
  ·rw[if_neg e,if_neg e,if_neg (λV=>U (by rw[<-V];exact hq))]) (by unfold uw;rw[if_neg (Ql _ _),if_pos rfl]) M hg a2
 refine⟨_,_,_,_,_,hM.miss hi hs hx,a4,?_,?_,λp hp=>?_,?_⟩
 ·show(if _ then _ else _)=_;rw[if_neg Ss];exact hr
 ·show(if _ then _ else _)=_;rw[if_pos (zA hi)]
 ·have a5:(r.take i).length=i:=by rw[bZ];omega
  unfold uw;by_cases e:p=r.take i
  ·have:=(hk _ O).2 Oo;rw[if_pos e,lA,lS];refine⟨Oo,λhl=>?_⟩;rw[e,a5]at hl;omega
  ·rw[if_neg e];by_cases V:p=r.take i++[r.getD i 0]
   ·rw[if_pos V];exact⟨nZ _,λ_=>nZ _⟩
   ·rw[if_neg V];have hd:=hp.resolve_right V;exact⟨(hk p hd).1,λhl=>(hk p hd).2 Oo⟩
 ·exact(((hb.alloc a3 _).alloc (by simp;omega) _).grown hg (by simp;omega) (λg a6=>((hT.o1 _ O).lt g a6).1)).setCell (hT.low _ O) _
theorem XR(w:World)(o:Obj)(v:Value)(t:TypeId):∀j u,[v][j]?=some u->((w.alloc o).alloc (.cells #[v] t)).cell? ((⟨w.heap.size+1,0,none⟩:Addr).add j)=some u:=by
 have:=qH (w.alloc o) v t;rw[World.size_alloc]at this;exact this
theorem Yx{b:Nat}{cs:Array Value}{t:TypeId}(h:W.heap[b]?=some (.cells cs t (0,0))):W.frozen? ⟨b,j,none⟩=false:=by unfold World.frozen?;rw[h];simp
theorem LST.half{N:List Int->List Int}{f:List Int->Nat}{g0 g1:List Int->Value}{o:Obj}{g3 cp3 a2 k1:Nat}{a1:Option Addr}(hi:i < r.length)(hs:∀s∈rs,cmpL s r < 0)(hx:r.getD i 0∉N (r.take i))(hM:TM (rs++[r.take i]) D N)
 (hT:TR W W0.heap.size D N N f g0 g1) (hr:f []=root) (hk:∀p,D p->(N p).length<=K+1/\(i<=p.length->(N p).length<=K)) (hb:Bl W0 W) (h1:g1 (r.take i)=.slice a1 a2 k1)
 (a5:w3.ownsRow W0.heap.size 3 1 (.slice (some ⟨g3,0,none⟩) ((N (r.take i)).length+1) cp3) ((N (r.take i)).length+1) ((N (r.take i)).map (Value.int .i64)++[.int .i64 (r.getD i 0)])) (hg:(W.alloc o).grownBy w3 (g0 (r.take i)).ownBlock) (a7:(g0 (r.take i)).ownBlock=some g3∨g3=(W.alloc o).heap.size):
 ∃W2 xs,W2=w3.setCell ⟨f (r.take i),0,none⟩ (.slice (some ⟨g3,0,none⟩) ((N (r.take i)).length+1) cp3)/\W2.cell? ⟨f (r.take i),1,none⟩=some (.slice a1 a2 k1)/\W2.ownsRow W0.heap.size 123 1 (.slice a1 a2 k1) (N (r.take i)).length xs/\W0.heap.size<=W2.heap.size
  /\∀w4 o' g4 M,w4.ownsRow W0.heap.size 123 1 (.slice (some ⟨g4,0,none⟩) ((N (r.take i)).length+1) M) ((N (r.take i)).length+1) (xs++[.pointer (some ⟨W2.heap.size,0,none⟩)])->((W2.alloc (.cells #[.slice none 0 0,.slice none 0 0] 173)).alloc o').grownBy w4 (Value.slice a1 a2 k1).ownBlock->((Value.slice a1 a2 k1).ownBlock=some g4∨g4=((W2.alloc (.cells #[.slice none 0 0,.slice none 0 0] 173)).alloc o').heap.size)->
   (w4.frozen? ⟨f (r.take i),1,none⟩=false/\w4.cell? ⟨f (r.take i),1,none⟩=some (.slice a1 a2 k1))/\(w4.setCell ⟨f (r.take i),1,none⟩ (.slice (some ⟨g4,0,none⟩) ((N (r.take i)).length+1) M)).cell? ⟨f (r.take i),1,none⟩=some (.slice (some ⟨g4,0,none⟩) ((N (r.take i)).length+1) M)/\(w4.setCell ⟨f (r.take i),1,none⟩ (.slice (some ⟨g4,0,none⟩) ((N (r.take i)).length+1) M)).cell? ⟨g4,(N (r.take i)).length,none⟩=some (.pointer (some ⟨W2.heap.size,0,none⟩))
   /\LST W0 (w4.setCell ⟨f (r.take i),1,none⟩ (.slice (some ⟨g4,0,none⟩) ((N (r.take i)).length+1) M)) rs r (i+1) K root W2.heap.size:=by
 have hh:=hM.here
 have O:=hT.vals hh a5 hg (λg I=>by
  simp only[Value.ownBlock,Option.some.injEq]at I;subst I;rcases a7 with h2|h2
  ·exact Or.inl h2
  ·exact Or.inr (by rw[h2];simp))
 have a8:=hb.size;have a6:Bl W0 (w3.setCell ⟨f (r.take i),0,none⟩ (.slice (some ⟨g3,0,none⟩) ((N (r.take i)).length+1) cp3)):=((hb.alloc a8 _).grown hg (by simp;omega) (λg I=>((hT.o0 _ hh).lt g I).1)).setCell (hT.low _ hh) _;refine⟨_,_,rfl,by rw[O.c1 hh,h1],by have:=O.o1 _ hh;rw[h1]at this;exact this,a6.size,λw4 o' g4 M U a4 a3=>?_⟩;rw[<-h1]at a4 a3;have V:w4.heap[f (r.take i)]?=some (.cells #[xa g0 (r.take i) (.slice (some ⟨g3,0,none⟩) ((N (r.take i)).length+1) cp3) (r.take i),g1 (r.take i)] 173 (0,0)):=(Vm a4 (O.lt hh) (own_ne (O.o1 _ hh) (O.typ hh) Dd)).trans (O.blk _ hh)
 refine⟨⟨Yx V,by rw[cell_of_row _ _ _ _ _ _ V,<-h1];rfl⟩,?_,?_,LST.miss hi hs hx hM O hr hk a6 U a4 (λg I=>by
  simp only[Value.ownBlock,Option.some.injEq]at I;subst I;rcases a3 with h2|h2
  ·exact Or.inl h2
  ·exact Or.inr (by rw[h2];simp;omega))⟩
 ·have:=bJ w4 (f (r.take i)) 1 _ _ (.slice (some ⟨g4,0,none⟩) ((N (r.take i)).length+1) M) V;rw[cell_of_row _ _ _ _ _ _ this];rfl
 ·have hm:=qA (w':=w4.setCell ⟨f (r.take i),1,none⟩ (.slice (some ⟨g4,0,none⟩) ((N (r.take i)).length+1) M)) U λg I=>bE _ _ _ _ (λe2=>own_ne U ⟨_,V⟩ Dd (by rw[I];exact congrArg some e2.symm));obtain⟨g,c,e,h2⟩:=x6 hm (j:=(N (r.take i)).length) Oo;simp only[Value.slice.injEq,Option.some.injEq,Addr.mk.injEq]at e;rw[<-e.1.1]at h2;rw[h2,bX Ss,lM,Nat.sub_self];rfl
theorem qCc(W0 w:World)(rs:List (List Int))(K root:Nat)(vr:Value)(r:List Int)(h:TS W0 w rs K root)(hr:IS W0 vr r)(hl:r.length<=1000)(hs:∀s∈rs,cmpL s r < 0)(hK:K<=1000000):
 Cl 125 #[.pointer (some ⟨root,0,none⟩),vr] w λe w'=>(∃v,e=.returned v)/\TS W0 w' (rs++[r]) (K+1) root:=by
 obtain⟨i0,hi,e4,e5,e6⟩:=info_parts Tryz.infoInt;obtain⟨iP,hj,e7,e8,f4⟩:=info_parts Tryz.infoTrieP;obtain⟨ar,cr,rfl,hc⟩:=hr
 have HC:Hid (∀W,Bl W0 W->∀j,j < r.length->∃(b o:Nat),ar=some ⟨b,o,none⟩/\W.cell? ⟨b,o+j,none⟩=some (.int .i64 (r.getD j 0))):=hid λW hW j hj=>by
  rcases hc with h0|⟨b,o,rfl,h⟩
  ·omega
  ·exact⟨b,o,rfl,(hW.cell (bL W0 _ (h j hj))).trans (h j hj)⟩
 have HL:Hid (LST W0 w rs r 0 K root root):=hid (LST.start r h);have HS:=hid hs;have HD:Hid (∀W nd,LST W0 W rs r r.length K root nd->TS W0 W (rs++[r]) (K+1) root):=hid λW nd h=>h.done;have HR:Hid (∀j,j < r.length->∀W nd,LST W0 W rs r j K root nd->Bl W0 W):=hid λj _ W nd ⟨_,_,_,_,_,_,_,_,_,_,hb⟩=>hb;have HH:Hid (∀j,j < r.length->∀W nd,LST W0 W rs r j K root nd->_):=hid λj hj W nd h=>h.hit hj hs;have HM:Hid (r.length=r.length):=hid rfl;obtain⟨n,hn⟩:∃n,n=r.length:=⟨_,rfl⟩;clear hc h hs;rw[<-hn]at HC HD HR HH hl HM ⊢;have d6:=hid hn;clear hn HM;go_enter Tryz.func125,Tryz.ntmps125
 go_wp2_with fail
 go_loopw [0,9] (λu t wr=>∃(j nd:Nat),j<=n/\t=.int .i64 j/\u=.pointer (some ⟨nd,0,none⟩)/\Hid (LST W0 wr rs r j K root nd)) (λ_ t _=>n - (intOf t).toNat)
 case atStart=>exact⟨0,root,nZ _,rfl,rfl,HL⟩
 case round=>
  clear HL;obtain⟨j,nd,g8,rfl,rfl,HT⟩:=hrel;by_cases c7:j < n
  ·have i1:(j:Int) < (n:Int):=Oo;obtain⟨b,o,ea,e1⟩:=HC.out wr (HR.out j c7 wr nd HT.out) j c7;subst ea;rcases HH.out j c7 wr nd HT.out with ⟨m,ga,ca,gb,cb,nx,c0,c1,c2,c3,g9,hL⟩|⟨D,N,f,g0,g1,hx,hM,a4,f7,c8,hk,hb⟩
   ·have HL:=hid hL;clear hL HH HR HD HC HS HT d6;generalize r.getD j 0=x at *;go_wp2_with fail
    go_roundw
    case rel=>exact⟨j+1,nx,Oo,Gg,rfl,HL⟩
    case measure=>simp[intOf];omega
   ·have hh:=hM.here;have f8:j < r.length:=by rw[<-d6.out];exact c7
    have h1:=(hk _ hh).2 (by rw[bZ];omega);obtain⟨a0,k0,e0⟩:=XQ (a4.o0 _ hh);obtain⟨a1,k1,f9⟩:=XQ (a4.o1 _ hh)
    have c9:Hid (∀w3 o,(wr.alloc o).grownBy w3 (Value.slice a0 (N (r.take j)).length k0).ownBlock->w3.frozen? ⟨nd,0,none⟩=false/\w3.cell? ⟨nd,0,none⟩=some (.slice a0 (N (r.take j)).length k0)):=hid λw3 o hg=>by
     rw[<-e0]at hg;have:=a4.kept0 hh hg hh;rw[c8]at this;exact⟨Yx this,by rw[cell_of_row _ _ _ _ _ _ this,<-e0];rfl⟩
    have a7:=hid λw3 o g3 cp3 g2 hg g5=>LST.half (w3:=w3) (o:=o) (g3:=g3) (cp3:=cp3) f8 HS.out hx hM a4 f7 hk hb f9 g2 hg g5;have d0:Hid (wr.ownsRow W0.heap.size 3 1 (.slice a0 (N (r.take j)).length k0) (N (r.take j)).length ((N (r.take j)).map (Value.int .i64))):=hid (by have:=a4.o0 _ hh;rw[e0]at this;exact this);have c0:=a4.c0 hh;rw[e0,c8]at c0;rw[e0,c8]at a7;have h2:=hb.size
    have d7:(N (r.take j)).length=0∨∃m ga y,(N (r.take j)).length=m+1/\a0=some ⟨ga,0,none⟩/\wr.cell? ⟨ga,m,none⟩=some (.int .i64 y)/\y≠r.getD j 0:=by
     rcases Nat.eq_zero_or_pos (N (r.take j)).length with h0|h0
     ·exact Or.inl h0
     ·obtain⟨m,hm⟩:∃m,(N (r.take j)).length=m+1:=⟨(N (r.take j)).length - 1,Oo⟩;obtain⟨ga,ca,ea,g6⟩:=x6 (a4.o0 _ hh) (j:=m) Oo;rw[e0]at ea;simp only[Value.slice.injEq]at ea;refine Or.inr ⟨m,ga,_,hm,ea.1,?_,qDq hx h0⟩
      have e9:(N (r.take j)).getD ((N (r.take j)).length - 1) 0=(N (r.take j))[m]' Oo:=by
       rw[gD,bC Oo,Option.getD_some];simp only[hm,Nat.add_sub_cancel]
      rw[g6,bN,bC Oo,e9];rfl
    clear HH HR HD HC HT HS hx hM a4 f7 c8 hk hb hh e0 f9 f8 d6;generalize r.getD j 0=x at *;generalize (N (r.take j)).length=l0 at *;rcases d7 with h0|⟨m,ga,y,h0,ea,cy,hy⟩
    ·subst h0;go_upto_region 6 with (first|(at_builtin;(refine wpList_append_lies _ rfl _ _ 25 rfl W0.heap.size 3 i0 (.int .i64 0) 1 8 Tryz.underlying25 hi e4 e5 e6 rfl Dd (.slice a0 (0) k0) _ _ rfl (d0.out.alloc _) ⟨_,0,none⟩ 1 1 [.int .i64 x] rfl rfl (qH _ _ _) (λu hu=>by simp at hu;subst hu;rfl) Dd (by unfold maxLen;omega) Oo (by simp;omega) _ rfl ?_;intro g3 cp3 w3 V I a5 a8;obtain⟨d8,d9⟩:=c9.out w3 _ I))|fail)
     obtain⟨W2,xs,a9,d1,b0,g7,a2⟩:=a7.out w3 _ g3 cp3 V I a5;have b7:=hid b0;have O:=hid a2;rw[<-a9];clear a9 V I a5 a8 d8 d9 b0 a2 a7 c9 d0 c0;go_upto_region 7 with (first|(at_builtin;(refine wpList_append_lies _ rfl _ _ 118 rfl W0.heap.size 123 iP (.pointer none) 1 8 Tryz.underlying118 hj e7 e8 f4 rfl Dd (.slice a1 (0) k1) _ xs rfl ((b7.out.alloc _).alloc _) ⟨_,0,none⟩ 1 1 [.pointer (some ⟨W2.heap.size,0,none⟩)] rfl rfl (XR _ _ _ _) (λu hu=>by simp at hu;subst hu;rfl) Dd (by unfold maxLen;omega) Oo (by simp;omega) _ rfl ?_;intro g4 a6 w4 U M a3 b9;obtain⟨e2,e3⟩:=(O.out w4 _ g4 a6 U M a3).1))|fail)
     obtain⟨-,q1,q2,hL⟩:=O.out w4 _ g4 a6 U M a3;have HL:=hid hL;clear hL U M a3 b9 e2 e3 O b7 d1;generalize w4.setCell ⟨nd,1,none⟩ (.slice (some ⟨g4,0,none⟩) (0+1) a6)=W5 at *;go_wp2_with fail
     go_roundw
     case rel=>exact⟨j+1,W2.heap.size,Oo,Gg,rfl,HL⟩
     case measure=>simp[intOf];omega
    ·subst h0 ea;have dm:decide ((m:Int) < 0)=false:=decide_eq_false Oo;have yx:(y != x)=true:=by simpa using hy
     go_upto_region 6 with (first|(at_builtin;(refine wpList_append_lies _ rfl _ _ 25 rfl W0.heap.size 3 i0 (.int .i64 0) 1 8 Tryz.underlying25 hi e4 e5 e6 rfl Dd (.slice (some ⟨ga,0,none⟩) (m+1) k0) _ _ rfl (d0.out.alloc _) ⟨_,0,none⟩ 1 1 [.int .i64 x] rfl rfl (qH _ _ _) (λu hu=>by simp at hu;subst hu;rfl) Dd (by unfold maxLen;omega) Oo (by simp;omega) _ rfl ?_;intro g3 cp3 w3 V I a5 a8;obtain⟨d8,d9⟩:=c9.out w3 _ I))|fail)
     obtain⟨W2,xs,a9,d1,b0,g7,a2⟩:=a7.out w3 _ g3 cp3 V I a5;have b7:=hid b0;have O:=hid a2;rw[<-a9];clear a9 V I a5 a8 d8 d9 b0 a2 a7 c9 d0 c0 cy;go_upto_region 7 with (first|(at_builtin;(refine wpList_append_lies _ rfl _ _ 118 rfl W0.heap.size 123 iP (.pointer none) 1 8 Tryz.underlying118 hj e7 e8 f4 rfl Dd (.slice a1 (m+1) k1) _ xs rfl ((b7.out.alloc _).alloc _) ⟨_,0,none⟩ 1 1 [.pointer (some ⟨W2.heap.size,0,none⟩)] rfl rfl (XR _ _ _ _) (λu hu=>by simp at hu;subst hu;rfl) Dd (by unfold maxLen;omega) Oo (by simp;omega) _ rfl ?_;intro g4 a6 w4 U M a3 b9;obtain⟨e2,e3⟩:=(O.out w4 _ g4 a6 U M a3).1))|fail)
     obtain⟨-,q1,q2,hL⟩:=O.out w4 _ g4 a6 U M a3;have HL:=hid hL;clear hL U M a3 b9 e2 e3 O b7 d1;generalize w4.setCell ⟨nd,1,none⟩ (.slice (some ⟨g4,0,none⟩) (m+1+1) a6)=W5 at *;go_wp2_with fail
     go_roundw
     case rel=>exact⟨j+1,W2.heap.size,Oo,Gg,rfl,HL⟩
     case measure=>simp[intOf];omega
  ·obtain rfl:j=n:=Oo;have i1:¬((j:Int) < (j:Int)):=Oo;have HF:=hid (HD.out wr nd HT.out);clear HC HD HR HH HT HS;go_wp2_with fail
   go_end0
   exact⟨⟨_,rfl⟩,HF.out⟩
theorem TS.start(w:World):TS w (w.alloc (.cells #[.slice none 0 0,.slice none 0 0] 173)) [] 0 w.heap.size:=by
 refine⟨_,_,λ_=>w.heap.size,λ_=>.slice none 0 0,λ_=>.slice none 0 0,TM.none,⟨λp _=>heap_alloc_new _ _,λp _=>bK _,λp _=>bG _ _ _ _,λp _=>bG _ _ _ _,λp q hp hq _=>hp.trans hq.symm,λp q _ _ _ g h=>by simp[Value.ownBlock]at h,λp q _ _ _ g h=>by simp[Value.ownBlock]at h⟩,rfl,λp _=>bK _,(bM _ _).alloc (bK _) _⟩
theorem TS.bw(h:TS W0 W rs K root):Bl W0 W:=by
 obtain⟨_,_,_,_,_,_,_,_,_,hb⟩:=h;exact hb
theorem qE5{rows:List (List Int)}(h:SL rows)(I:j < rows.length):∀s∈rows.take j,cmpL s (rows.getD j []) < 0:=λs hs=>by
 obtain⟨i,hi,e⟩:=gO hs;rw[bZ]at hi;rw[List.getElem_take]at e;have:=List.pairwise_iff_getElem.1 h i j Oo I Oo;rw[gD,bC I,<-e];exact this
theorem JY(w:World)(vr:Value)(rows:List (List Int))(hr:ISS w vr rows)(hS:SL rows)(hn:rows.length<=100000)(hl:∀r∈rows,r.length<=1000):
 Cl 105 #[vr] w λe w'=>∃c,e=.returned (.pointer c)/\(rows=[]/\c=none∨rows≠[]/\∃root,c=some ⟨root,0,none⟩/\TS w w' rows rows.length root)/\Bl w w':=by
 obtain⟨ar,cr,rfl,hc⟩:=hr
 have M:Hid (∀W,Bl w W->∀j,j < rows.length->∃(b o:Nat) (u:Value),ar=some ⟨b,o,none⟩/\W.cell? ⟨b,o+j,none⟩=some u/\IS w u (rows.getD j [])):=hid λW hW j K=>by
  rcases hc with h0|⟨b,o,rfl,h⟩
  ·omega
  ·obtain⟨u,h1,h2⟩:=h j K;exact⟨b,o,u,rfl,(hW.cell (bL w _ h1)).trans h1,h2⟩
 have O:Hid (∀W u j,j < rows.length->TS w W (rows.take j) j w.heap.size->IS w u (rows.getD j [])->Cl 125 #[.pointer (some ⟨w.heap.size,0,none⟩),u] W λe w'=>(∃v,e=.returned v)/\TS w w' (rows.take (j+1)) (j+1) w.heap.size):=hid λW u j K hT hu=>by
  have hm:rows.getD j []∈rows:=by rw[gD,bC K];exact gM _
  have e:rows.take (j+1)=rows.take j++[rows.getD j []]:=by
   rw[tA,bC K,gD,bC K];rfl
  rw[e];exact qCc w W (rows.take j) j w.heap.size u _ hT hu (hl _ hm) (qE5 hS K) Oo
 have H0:=hid (TS.start w);have U:Hid (∀W,TS w W (rows.take rows.length) rows.length w.heap.size->TS w W rows rows.length w.heap.size):=hid λW h=>by rw[tL]at h;exact h
 have HZ:Hid (rows.length=0->rows=[]):=hid λh=>List.length_eq_zero_iff.1 h;have I:Hid (0 < rows.length->rows≠[]):=hid λh e=>by rw[e]at h;simp at h
 have V:Hid (rows.take 0=[]):=hid rfl;clear hc hS hl;obtain⟨n,a2⟩:∃n,n=rows.length:=⟨_,rfl⟩;rw[<-a2]at M O U HZ I hn ⊢;clear a2;rcases Nat.eq_zero_or_pos n with h0|h0
 ·subst h0;have hz:=HZ.out rfl;clear M O U HZ I H0;go_enter Tryz.func105,Tryz.ntmps105
  go_wp2_with fail
  go_ret;exact⟨_,rfl,Or.inl ⟨hz,rfl⟩,bM _ _⟩
 ·have i0:((n:Int) == 0)=false:=by simp;omega
  have hz:=hid (I.out h0);clear HZ I;go_enter Tryz.func105,Tryz.ntmps105
  go_upto_region 4 with fail
  generalize w.alloc (.cells #[.slice none 0 0,.slice none 0 0] 173)=W1 at *;go_wp2_with fail
  go_loopw [13] (λt wr=>∃(j:Nat),j<=n/\t=.int .i64 j/\Hid (TS w wr (rows.take j) j w.heap.size)) (λt _=>n - (intOf t).toNat)
  case atStart=>exact⟨0,nZ _,rfl,hid (by rw[V.out];exact H0.out)⟩
  case round=>
   clear H0 V;obtain⟨j,K,rfl,HT⟩:=hrel;by_cases a3:j < n
   ·have i1:(j:Int) < (n:Int):=Oo;obtain⟨b,o,u,ea,e1,hu⟩:=M.out wr HT.out.bw j a3;subst ea;have a4:=hid (O.out wr u j a3 HT.out hu);obtain⟨au,cu,rfl,-⟩:=hu;clear M O U HT;generalize (rows.getD j []).length=lr at *;go_wp2_with fail
    refine a4.out.mono ?_;rintro e w2 ⟨⟨v,rfl⟩,a5⟩;have a6:=hid a5;clear a5 a4;go_wp2_with fail
    go_roundw
    case rel=>exact⟨j+1,Oo,Gg,a6⟩
    case measure=>simp[intOf];omega
   ·obtain rfl:j=n:=Oo;have i1:¬((j:Int) < (j:Int)):=Oo;have HF:=hid (U.out wr HT.out);clear M O U HT;go_wp2_with fail
    go_ret;exact⟨_,rfl,Or.inr ⟨hz.out,_,rfl,HF.out⟩,HF.out.bw⟩
end Go.Proofs.YtkaipapdlnojiaaGreat
