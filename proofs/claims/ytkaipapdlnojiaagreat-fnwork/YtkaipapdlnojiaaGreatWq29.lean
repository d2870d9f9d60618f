import Derived.Lib.OwnKind
import Derived.OneCell
import Derived.Test.YtkaipapdlnojiaaGreatWq28
set_option maxHeartbeats 40000000
set_option maxRecDepth 1000000
namespace Go.Proofs.YtkaipapdlnojiaaGreat
open Go.RowKit
variable {x:Int}{l r:List Int}{E xs:List Value}{B C I c cap g i j m n q s:Nat}{o:Obj}{e:TypeId}{u v:Value}{w w':World}
theorem qCH(h:w.ownsRow B e s v n xs)(M:Kc g w w')(V:g < B):w'.ownsRow B e s v n xs:=by
 have I:=h.lt;obtain⟨O,K⟩:=h;refine⟨O,?_⟩;rcases K with K|⟨c,cap,cur,rfl,hb,U,hr⟩
 ·exact Or.inl K
 ·exact Or.inr ⟨c,cap,cur,rfl,hb,(M.block c (I c rfl).2 Oo).trans U,hr⟩
theorem qAE(h:w.ownsRow B e s v n xs)(M:Bl w w'):w'.ownsRow B e s v n xs:=by
 have I:=h.lt;obtain⟨O,K⟩:=h;refine⟨O,?_⟩;rcases K with K|⟨c,cap,cur,rfl,hb,U,hr⟩
 ·exact Or.inl K
 ·exact Or.inr ⟨c,cap,cur,rfl,hb,(M.block c (I c rfl).2).trans U,hr⟩
def Row1(w:World)(B:Nat)(u:Value):Prop:=∃l:List Int,0 < l.length/\l.length<=8/\w.ownsRow B 3 1 u l.length (l.map (Value.int .i64))
structure Pat(B:Nat)(w:World)(v:Value)(E:List Value):Prop where
 own:w.ownsRow B 25 1 v E.length E
 rows:∀u,u∈E->Row1 w B u
theorem Uz{B' U s':Nat}{O:TypeId}{v':Value}{I:List Value}(h:w.ownsRow B e s v n xs)(V:w.ownsRow B' O s' v' U I)(K:e≠O):v.ownBlock=none∨v.ownBlock≠v'.ownBlock:=by
 cases hv:v.ownBlock with
 |none=>exact Or.inl rfl
 |some g=>
  refine Or.inr (λe1=>?_);obtain⟨c,f,h1⟩:=Lib.ownsRow_kind h g hv;obtain⟨c',f',M⟩:=Lib.ownsRow_kind V g e1.symm;rw[h1]at M;simp only[Option.some.injEq,Obj.cells.injEq]at M;exact K M.2.1
theorem U0:3≠25:=Dd
theorem qCI(h:w.ownsRow C e s v n xs)(hB:B<=C):w.ownsRow B e s v n xs:=by
 refine⟨h.1,?_⟩;rcases h.2 with I|⟨c,cp,cur,K,O,M⟩
 ·exact Or.inl I
 ·exact Or.inr ⟨c,cp,cur,K,Oo,M⟩
theorem qEn{s:Nat->Bool}(h:∃j,j < q/\s j=true):0 < (plc s q).length:=by
 obtain⟨j,I,K⟩:=h;refine List.length_pos_of_mem (a:=Int.ofNat j) ?_;unfold plc;exact List.mem_map.2 ⟨j,List.mem_filter.2 ⟨List.mem_range.2 I,K⟩,rfl⟩
theorem Pat.slice(h:Pat B w v E):∃b p,v=.slice b E.length p:=by
 rcases h.own.2 with ⟨I,K⟩|⟨g,cp,cur,hv,hb,M,hr⟩
 ·exact⟨none,0,by rw[I,K]⟩
 ·exact⟨_,_,hv⟩
theorem Tryz.infoRow:(Tryz.prog.info? 25).map (λi=>(i.zero,i.size,i.bytes))=some (some (.slice none 0 0),1,24):=by kernel_rfl
theorem qAF(w:World)(x:Int):IS (w.alloc (.cells #[.int .i64 x] 3)) (.slice (some ⟨w.heap.size,0,none⟩) 1 1) [x]:=by
 refine⟨_,1,rfl,Or.inr ⟨w.heap.size,0,rfl,λj I=>?_⟩⟩;have:j=0:=by simp at I;exact I
 subst this;simp
theorem qDT(l:List Int):∀u∈l.map (Value.int .i64),u.oneCell'=true:=by
 intro u I;obtain⟨x,_,rfl⟩:=List.mem_map.1 I;rfl
theorem Row1.form(h:Row1 w B u):∃g l c,u=.slice (some ⟨g,0,none⟩) l c:=by
 obtain⟨l,K,M,I⟩:=h;rcases I.2 with ⟨_,O⟩|⟨g,cp,cur,hv,_⟩
 ·omega
 ·exact⟨g,_,cp,hv⟩
theorem Pat.form(h:Pat B w v E)(K:0 < E.length):∃g cap,v=.slice (some ⟨g,0,none⟩) E.length cap/\B<=g/\g < w.heap.size:=by
 have I:=h.own.lt;rcases h.own.2 with ⟨_,M⟩|⟨g,cp,cur,hv,hb,O,hr⟩
 ·omega
 ·exact⟨g,cp,hv,hb,(I g (by rw[hv];rfl)).2⟩
structure RowL(w:World)(B:Nat)(u:Value)(l:List Int):Prop where
 pos:0 < l.length
 few:l.length<=8
 own:w.ownsRow B 3 1 u l.length (l.map (Value.int .i64))
theorem RowL.row1(h:RowL w B u l):Row1 w B u:=⟨l,h.pos,h.few,h.own⟩
theorem RowL.kc(h:RowL w B u l)(I:Kc g w w')(K:g < B):RowL w' B u l:=⟨h.pos,h.few,qCH h.own I K⟩
theorem RowL.bel(h:RowL w B u l)(I:Bl w w'):RowL w' B u l:=⟨h.pos,h.few,qAE h.own I⟩
theorem RowL.form(h:RowL w B u l):∃g c,u=.slice (some ⟨g,0,none⟩) l.length c:=by
 rcases h.own.2 with ⟨_,I⟩|⟨g,cp,cur,hv,_⟩
 ·have:=h.pos;omega
 ·exact⟨g,cp,hv⟩
theorem RowL.is(h:RowL w B u l):IS w u l:=by
 rcases h.own.2 with ⟨rfl,K⟩|⟨g,cp,cur,rfl,hb,M,hr⟩
 ·have:=h.pos;omega
 ·refine⟨_,cp,rfl,Or.inr ⟨g,0,rfl,λj I=>?_⟩⟩;have:=h.own.cellAt j Oo;rw[Nat.zero_add,this,bN,bC I];simp[List.getD_eq_getElem?_getD,I]
def EdG(q:Nat)(l:List Int):Prop:=l.Pairwise (·< ·)/\∀x∈l,0<=x/\x < (q:Int)
structure PatL(B:Nat)(w:World)(v:Value)(E:List (Value×List Int)):Prop where
 own:w.ownsRow B 25 1 v E.length (E.map Prod.fst)
 rows:∀u∈E,RowL w B u.1 u.2
section
variable {B:Nat} {w w' w1:World} {v v':Value} {E:List (Value×List Int)}
theorem PatL.pat(h:PatL B w v E):Pat B w v (E.map Prod.fst):=⟨by rw[lM];exact h.own,λu I=>by
 obtain⟨x,K,rfl⟩:=List.mem_map.1 I;exact(h.rows x K).row1⟩
theorem PatL.kc(h:PatL B w v E)(I:Kc g w w')(K:g < B):PatL B w' v E:=⟨qCH h.own I K,λu M=>(h.rows u M).kc I K⟩
theorem PatL.bel(h:PatL B w v E)(I:Bl w w'):PatL B w' v E:=⟨qAE h.own I,λu K=>(h.rows u K).bel I⟩
theorem PatL.push(h:PatL B w v E)(M:w1.ownsRow B 25 1 v' (E.length+1) (E.map Prod.fst++[u]))(O:(w.alloc o).grownBy w1 v.ownBlock)(U:RowL w B u l):PatL B w1 v' (E++[(u,l)]):=by
 refine⟨by rw[lA,mA];exact M,λx K=>?_⟩
 have I:RowL w B x.1 x.2:=by
  rcases List.mem_append.1 K with K|K
  ·exact h.rows x K
  ·rw[List.mem_singleton]at K;rw[K];exact U
 exact⟨I.pos,I.few,(I.own.alloc o).kept O (Uz (I.own.alloc o) (h.own.alloc o) U0)⟩
theorem PatL.put(h:PatL B w (.slice (some ⟨g,0,none⟩) n cap) E)(O:n=E.length)(V:j < n)(U:RowL w B u l):PatL B (w.setCell ⟨g,j,none⟩ u) (.slice (some ⟨g,0,none⟩) n cap) (E.set j (u,l)):=by
 subst O;refine⟨?_,λx K=>?_⟩
 ·have:=(h.own.stored j u).1;rw[List.length_set,List.map_set];exact this
 ·have I:RowL w B x.1 x.2:=by
   rcases List.mem_or_eq_of_mem_set K with K|K
   ·exact h.rows x K
   ·rw[K];exact U
  refine⟨I.pos,I.few,ownsRow_setCell_other I.own (λe=>?_) u⟩;rcases Uz I.own h.own U0 with M|M
  ·rw[M]at e;cases e
  ·exact M e
theorem PatL.form(h:PatL B w v E)(I:0 < E.length):∃g cap,v=.slice (some ⟨g,0,none⟩) E.length cap/\B<=g/\g < w.heap.size:=by
 have:=h.pat.form (by rw[lM];exact I);rw[lM]at this;exact this
theorem PatL.slice(h:PatL B w v E):∃b p,v=.slice b E.length p:=by
 have:=h.pat.slice;rw[lM]at this;exact this
theorem PatL.cell(h:PatL B w (.slice (some ⟨g,0,none⟩) E.length cap) E)(I:j < E.length):w.cell? ⟨g,j,none⟩=some (E.getD j (.slice none 0 0,[])).1/\w.frozen? ⟨g,j,none⟩=false/\RowL w B (E.getD j (.slice none 0 0,[])).1 (E.getD j (.slice none 0 0,[])).2:=by
 have e:E[j]?=some (E.getD j (.slice none 0 0,[])):=by simp[List.getD_eq_getElem?_getD,I]
 refine⟨(h.own.cellAt j Oo).trans (by rw[bN,e];rfl),h.own.frozenAt j,h.rows _ (List.mem_of_getElem? e)⟩
end
structure DrawnL(W:World)(g:Nat)(a:Option Addr)(n cap k q:Nat)(w:World)(v:Value)(E:List (Value×List Int)):Prop where
 pat:PatL W.heap.size w v E
 cur:Rdr w g a n cap k
 kc:Kc g W w
 gl:g < W.heap.size
 bl:∀b o,a=some ⟨b,o,none⟩->0 < n->b < W.heap.size
 gd:∀u∈E,EdG q u.2
section
variable {W w w' w1:World} {g n cap k q l:Nat} {a:Option Addr} {v v' u:Value} {E:List (Value×List Int)} {r:List Int}
theorem DrawnL.mono(h:DrawnL W g a n cap k q w v E)(hl:k<=l):DrawnL W g a n cap l q w v E:=⟨h.pat,h.cur.mono hl,h.kc,h.gl,h.bl,h.gd⟩
theorem DrawnL.turn(h:DrawnL W g a n cap k q w v E)(I:Kc g w w')(K:Rdr w' g a n cap l):DrawnL W g a n cap l q w' v E:=⟨h.pat.kc I h.gl,K,h.kc.trans I,h.gl,h.bl,h.gd⟩
theorem DrawnL.bel(h:DrawnL W g a n cap k q w v E)(hb:Bl w w'):DrawnL W g a n cap k q w' v E:=⟨h.pat.bel hb,h.cur.below hb,h.kc.below (hb.mono h.kc.size),h.gl,h.bl,h.gd⟩
theorem DrawnL.push(h:DrawnL W g a n cap k q w v E)(K:w1.ownsRow W.heap.size 25 1 v' (E.length+1) (E.map Prod.fst++[u]))(M:(w.alloc o).grownBy w1 v.ownBlock)(O:RowL w W.heap.size u r)(hr:EdG q r):DrawnL W g a n cap k q w1 v' (E++[(u,r)]):=by
 have hs:=h.kc.size;have hb:Below W.heap.size w w1:=((bM _ w).alloc hs o).grown M (by simp;omega) (λj U=>(h.pat.own.lt j U).1);refine⟨h.pat.push K M O,h.cur.above hb h.gl h.bl,h.kc.below hb,h.gl,h.bl,λx I=>?_⟩;rcases List.mem_append.1 I with I|I
 ·exact h.gd x I
 ·rw[List.mem_singleton]at I;rw[I];exact hr
theorem DrawnL.put{G:Nat}(h:DrawnL W g a n cap k q w (.slice (some ⟨G,0,none⟩) E.length c) E)(K:W.heap.size<=G)(M:j < E.length)(O:RowL w W.heap.size u r)(hr:EdG q r):DrawnL W g a n cap k q (w.setCell ⟨G,j,none⟩ u) (.slice (some ⟨G,0,none⟩) E.length c) (E.set j (u,r)):=by
 have hb:Below W.heap.size w (w.setCell ⟨G,j,none⟩ u):=Yh _ K _ _;refine⟨h.pat.put rfl M O,h.cur.above hb h.gl h.bl,h.kc.below hb,h.gl,h.bl,λx I=>?_⟩;rcases List.mem_or_eq_of_mem_set I with I|I
 ·exact h.gd x I
 ·rw[I];exact hr
end
def CovL(E:List (Value×List Int))(i:Nat):Prop:=∀x:Nat,x < i->∃u∈E,(x:Int)∈u.2
theorem CovL.push{E:List (Value×List Int)}(h:CovL E i)(hi:(i:Int)∈r):CovL (E++[(u,r)]) (i+1):=λx M=>by
 by_cases e:x < i
 ·obtain⟨y,I,K⟩:=h x e;exact⟨y,List.mem_append_left _ I,K⟩
 ·obtain rfl:x=i:=Oo;exact⟨(u,r),List.mem_append_right _ List.mem_cons_self,hi⟩
theorem CovL.has{E:List (Value×List Int)}(h:CovL E i)(hi:∃u∈E,(i:Int)∈u.2):CovL E (i+1):=λx I=>by
 by_cases e:x < i
 ·exact h x e
 ·obtain rfl:x=i:=Oo;exact hi
theorem CovL.put{E:List (Value×List Int)}(h:CovL E i)(U:m < E.length)(hs:∀x∈(E.getD m (.slice none 0 0,[])).2,x∈r)(hi:(i:Int)∈r):CovL (E.set m (u,r)) (i+1):=λx hx=>by
 have I:(u,r)∈E.set m (u,r):=List.mem_set U _;by_cases e:x < i
 ·obtain⟨y,V,K⟩:=h x e;obtain⟨j,M,rfl⟩:=gO V;by_cases O:m=j
  ·subst O;exact⟨_,I,hs _ (by rw[gD,bC M];exact K)⟩
  ·refine⟨E[j],List.mem_iff_getElem.2 ⟨j,by rw[List.length_set];exact M,?_⟩,K⟩;rw[List.getElem_set_ne O]
 ·obtain rfl:x=i:=Oo;exact⟨_,I,hi⟩
theorem EdG.two{y:Int}(M:0<=x)(K:x < y)(O:y < (q:Int)):EdG q [x,y]:=⟨by simp[K],λz I=>by simp only[List.mem_cons,List.not_mem_nil,or_false]at I;rcases I with rfl|rfl <;> omega⟩
theorem EdG.one(K:0<=x)(M:x < (q:Int)):EdG q [x]:=⟨List.pairwise_singleton _ _,λz I=>by rw[List.mem_singleton]at I;subst I;exact⟨K,M⟩⟩
theorem EdG.plc{s:Nat->Bool}(h:∀j,j < m->s j=true->j < q):EdG q (plc s m):=by
 unfold Go.Proofs.YtkaipapdlnojiaaGreat.plc;refine⟨List.pairwise_map.2 ((List.Pairwise.filter _ List.pairwise_lt_range).imp λh=>Int.ofNat_lt.2 h),λz K=>?_⟩;obtain⟨j,I,rfl⟩:=List.mem_map.1 K;rw[List.mem_filter,List.mem_range]at I;have:=h j I.1 I.2;show 0<=(j:Int)/\(j:Int) < (q:Int);omega
theorem EdG.snoc{p:Nat}{i:Int}(h:EdG q l)(hp:l.length=p+1)(M:l.getD p 0 < i)(hi:i < (q:Int)):EdG q (l++[i]):=by
 have hl:∀x∈l,x < i:=λx I=>by
  obtain⟨j,O,rfl⟩:=gO I;by_cases e:j=p
  ·subst e;rw[gD,bC O]at M;exact M
  ·have K:=List.pairwise_iff_getElem.1 h.1 j p O Oo Oo;rw[gD,bC (show p < l.length by omega)]at M;exact Int.lt_trans K M
 refine⟨List.pairwise_append.2 ⟨h.1,List.pairwise_singleton _ _,λx I y U=>?_⟩,λx I=>?_⟩
 ·rw[List.mem_singleton]at U;subst U;exact hl x I
 ·rcases List.mem_append.1 I with K|K
  ·exact h.2 x K
  ·rw[List.mem_singleton]at K;subst K;refine⟨?_,hi⟩;have V:l.getD p 0∈l:=by rw[gD,bC (show p < l.length by omega)];exact gM _
   have:=(h.2 _ V).1;omega
theorem kU{s:Nat->Bool}(I:0<=x)(K:x < (m:Int))(hs:s x.toNat=true):x∈plc s m:=by
 unfold plc;exact List.mem_map.2 ⟨x.toNat,List.mem_filter.2 ⟨List.mem_range.2 Oo,hs⟩,by show((x.toNat:Nat):Int)=x;omega⟩
theorem uy(w:World)(B:Nat)(l:List Int)(hB:B<=w.heap.size)(I:0 < l.length)(K:l.length<=8):RowL (w.alloc (.cells (l.map (Value.int .i64)).toArray 3)) B (.slice (some ⟨w.heap.size,0,none⟩) l.length l.length) l:=by
 refine⟨I,K,?_⟩;have:=World.ownsRow_lit (e:=3) (size:=1) w (l.map (Value.int .i64)).toArray l.length hB (by unfold maxLen;omega) Ss;simpa using this
theorem ZY{s:Nat->Bool}(h:w.ownsRow C 3 1 v (plc s q).length ((plc s q).map (Value.int .i64)))(hB:B<=C)(hq:q<=8)(hs:∃j,j < q/\s j=true):RowL w B v (plc s q):=by
 have:=xK s q;exact⟨qEn hs,Oo,qCI h hB⟩
structure TLs(W:World)(B:Nat)(v:Value)(rl:List TbC):Prop where
 own:W.ownsRow B 34 3 v rl.length (rl.flatMap tcc)
 el:∀r∈rl,∀W',(∀k,B<=k->k < W.heap.size->v.ownBlock≠some k->W'.heap[k]?=W.heap[k]?)->ITc W' r
section
variable {W W' wr w3:World} {B g:Nat} {v:Value} {rl:List TbC} {r:TbC} {o:Obj}
theorem TLs.kc(h:TLs W B v rl)(I:Kc g W W')(M:g < B):TLs W' B v rl:=
 ⟨yY h.own I M,λr hr X O=>h.el r hr X λk U K V=>(O k U (bV K I.size) V).trans (I.block k K Oo)⟩
theorem TLs.push{O:Nat}(h:TLs wr B v rl)(K:Kc g wr W)(a6:g < B)(hB:B<=wr.heap.size)(he:Fz wr.heap.size (λX=>ITc X r) W)(hg:(W.alloc o).grownBy w3 v.ownBlock)(U:w3.ownsRow B 34 3 (.slice (some ⟨O,0,none⟩) (rl.length+1) c) (rl.length+1) (rl.flatMap tcc++[r.v0,r.v1,r.v2]))(I:v.ownBlock=some O∨O=(W.alloc o).heap.size):
 TLs w3 B (.slice (some ⟨O,0,none⟩) (rl.length+1) c) (rl++[r]):=by
 have hs:=K.size;have a3:=hg.size;rw[World.size_alloc]at a3 I;refine⟨by rw[lA,lS,List.flatMap_append];simpa[tcc]using U,λq hq W' a4=>?_⟩
 have key:∀k,B<=k->k < W.heap.size->v.ownBlock≠some k->O≠k->W'.heap[k]?=W.heap[k]?:=λk hb K V M=>by
  rw[a4 k hb Oo (λe=>M (by simpa[Value.ownBlock]using e)),hg.block k (by rw[World.size_alloc];omega) (λe=>V e.symm)];exact Below.heap_alloc _ _ _ K
 have a2:∀k,v.ownBlock=some k->k < wr.heap.size:=λk K=>(h.own.lt k K).2;rcases List.mem_append.1 hq with hq|hq
 ·refine h.el q hq W' λk hb a5 V=>?_;rw[key k hb Oo V (λe=>?_)]
  ·exact K.block k a5 Oo
  ·subst e;rcases I with M|M
   ·exact V M
   ·omega
 ·rw[List.mem_singleton]at hq;subst hq;refine he W' λk V M=>key k Oo M (λe=>?_) (λe=>?_)
  ·have:=a2 k e;omega
  ·subst e;rcases I with h3|h3
   ·have:=a2 _ h3;omega
   ·omega
theorem TLs.its(h:TLs W B v rl):ITs W v (rl.map TbC.t):=by
 obtain⟨a,cap,e,K⟩:=qDo tcc (λ_=>rfl) qg h.own;refine⟨a,cap,by rw[lM];exact e,?_⟩;rcases K with M|⟨g,O,-,K⟩
 ·exact Or.inl (by rw[lM];exact M)
 ·refine Or.inr ⟨g,0,O,λj I=>?_⟩;rw[lM]at I;have U:ITc W (rl.getD j qg):=h.el _ (by rw[gD,bC I];exact gM _) W λ_ _ _ _=>rfl
  have V:(rl.map TbC.t).getD j qC=(rl.getD j qg).t:=by
   rw[gD,gD,bN,bC I];rfl
  rw[V,Nat.zero_add];exact⟨_,_,_,K j 0 I Oo,K j 1 I Oo,K j 2 I Oo,U⟩
theorem TLs.form(h:TLs W B v rl)(O:0 < rl.length):∃I c,v=.slice (some ⟨I,0,none⟩) rl.length c/\B<=I/\I < W.heap.size:=by
 obtain⟨a,cap,e,K⟩:=qDo tcc (λ_=>rfl) qg h.own;rcases K with U|⟨I,M,-,-⟩
 ·omega
 ·subst M;have:=h.own.lt I (by rw[e];rfl);exact⟨I,cap,e,this⟩
theorem TLs.cells(h:TLs W B (.slice (some ⟨I,0,none⟩) rl.length c) rl)(O:j < rl.length):
 W.cell? ⟨I,j*3,none⟩=some (rl.getD j qg).v0/\W.cell? ⟨I,j*3+1,none⟩=some (rl.getD j qg).v1/\W.cell? ⟨I,j*3+2,none⟩=some (rl.getD j qg).v2/\(∀q,W.frozen? ⟨I,q,none⟩=false)/\ITc W (rl.getD j qg):=by
 obtain⟨a,cap,e,K⟩:=qDo tcc (λ_=>rfl) qg h.own;cases e
 rcases K with V|⟨g2,U,⟨cur,M⟩,K⟩
 ·omega
 ·cases U
  refine⟨K j 0 O Oo,K j 1 O Oo,K j 2 O Oo,λq=>by unfold World.frozen?;rw[show W.heap[I]?=_ from M];simp,h.el _ (by rw[gD,bC O];exact gM _) W λ_ _ _ _=>rfl⟩
theorem Ji(q:Nat)(hq:q < 3)(u:Value):∀(rl:List TbC) (j:Nat) (r':TbC),j < rl.length->tcc r'=(tcc (rl.getD j qg)).set q u->(rl.flatMap tcc).set (j*3+q) u=(rl.set j r').flatMap tcc
 |[],j,_,hj,_=>by simp at hj
 |x::rl,0,r',_,e=>by
  rw[List.flatMap_cons,List.set_cons_zero,List.flatMap_cons,e,List.set_append_left _ _ (by show 0*3+q < 3;omega),Nat.zero_mul,Nat.zero_add];rfl
 |x::rl,j+1,r',hj,e=>by
  rw[List.flatMap_cons,List.set_cons_succ,List.flatMap_cons,List.set_append_right _ _ (by show 3<=_;omega),show(j+1)*3+q - (tcc x).length=j*3+q by show(j+1)*3+q - 3=_;omega,Ji q hq u rl j r' (by simpa using hj) (by simpa using e)]
theorem TLs.put(h:TLs W B (.slice (some ⟨I,0,none⟩) rl.length c) rl)(M:j < rl.length)(hq:q < 3){r':TbC}(e:tcc r'=(tcc (rl.getD j qg)).set q u)(hi:∀X,ITc X (rl.getD j qg)->ITc X r'):
 TLs (W.setCell ⟨I,j*3+q,none⟩ u) B (.slice (some ⟨I,0,none⟩) rl.length c) (rl.set j r'):=by
 have hb:∀X:World,(∀k,B<=k->k < (W.setCell ⟨I,j*3+q,none⟩ u).heap.size->(Value.slice (some ⟨I,0,none⟩) rl.length c).ownBlock≠some k->X.heap[k]?=(W.setCell ⟨I,j*3+q,none⟩ u).heap[k]?)->∀r∈rl,ITc X r:=λX K r hr=>h.el r hr X λk U V O=>by
  rw[K k U (by simpa[World.setCell]using V) O];exact bE _ _ _ _ (λe=>O (by simp only at e;subst e;rfl))
 refine⟨?_,λr hr X K=>?_⟩
 ·have:=(h.own.stored (j*3+q) u).1;rw[Ji q hq u rl j r' M e]at this;rw[List.length_set];exact this
 ·rcases List.mem_or_eq_of_mem_set hr with hr|rfl
  ·exact hb X K r hr
  ·exact hi X (hb X K _ (by rw[gD,bC M];exact gM M))
end
theorem Tryz.infoTbX:(Tryz.prog.info? 34).map (λi=>(i.zero,i.size,i.bytes))=some (some (.agg #[.slice none 0 0,.slice none 0 0,.slice none 0 0]),3,72):=by kernel_rfl
theorem qFE{W:World}{r:TbC}(h:ITc W r):r.v0.oneCell'=true/\r.v1.oneCell'=true/\r.v2.oneCell'=true:=by
 obtain⟨⟨a0,c0,I,-⟩,⟨a1,c1,K,-⟩,⟨O,c2,M,-⟩⟩:=h;rw[I,K,M];exact⟨rfl,rfl,rfl⟩
theorem jN{α:Type}{l:List α}{x d:α}(hi:i < l.length):(l++[x]).getD i d=l.getD i d:=by rw[gD,aL hi,<-gD]
theorem kY{α:Type}{l:List α}{x d:α}:(l++[x]).getD l.length d=x:=by simp[List.getD_eq_getElem?_getD]
theorem Za(W:World)(g:Nat)(a:Option Addr)(n cap k B:Nat)(hC:Rdr W g a n cap k)(hn:n<=1048576)(hk:k<=100000)(v:Value)(E:List (Value×List Int))(hP:PatL B W v E)(e2:g < B)(b9:0 < E.length)(hE:E.length<=7):
 Cl 13 #[.pointer (some ⟨g,0,none⟩),v] W λe w'=>∃(v':Value) (rl:List TbC),e=.returned v'/\TLs w' W.heap.size v' rl/\rl.length=E.length/\(∀j,j < E.length->TbG (E.getD j (.slice none 0 0,[])).2 3 (rl.getD j qg).t/\CpV (rl.getD j qg).v1/\CpV (rl.getD j qg).v2)/\Kc g W w'/\Rdr w' g a n cap (k+1000):=by
 obtain⟨iT,e3,e4,a6,e5⟩:=info_parts Tryz.infoTbX
 have V:g < W.heap.size:=by
  obtain⟨k',sd,_,h2⟩:=hC;exact bL W _ h2.c0
 have e6:Hid (∀b o,a=some ⟨b,o,none⟩->0 < n->b < W.heap.size):=hid (λb o e e7=>by
  obtain⟨k',sd,_,h2⟩:=hC;exact h2.byteLt e e7)
 obtain⟨ge,ce,rfl,-,-⟩:=hP.form b9;have HP:=hid hP;have KP:Hid (∀(w:World) (k:Nat),Rdr w g a n cap k->k<=1000000000->Cl 35 #[.pointer (some ⟨g,0,none⟩),.int .i64 2] w λe w'=>∃z:Nat,e=.returned (.int .i64 z)/\(z < 2∨z=0)/\Rdr w' g a n cap (k+1)/\Kc g w w'):=hid (λw k h h1=>yA w g a n cap k 2 h hn h1 Oo);have HX:Hid (Rdr (W.alloc (.cells #[] 34)) g a n cap k/\Kc g W (W.alloc (.cells #[] 34))/\TLs (W.alloc (.cells #[] 34)) W.heap.size (.slice (some ⟨W.heap.size,0,none⟩) 0 0) []):=hid ⟨hC.below ((bM _ _).alloc (bK _) _),(Kc.refl _ _).below ((bM _ _).alloc (bK _) _),⟨oM W #[] 0 (bK _) Dd rfl,λr hr=>by cases hr⟩⟩;clear hC hP;go_enter Tryz.func13,Tryz.ntmps13
 go_upto_region 3 with (first|(go_at_call 35;refine(KP.out _ _ HX.out.1 Oo).mono ?_;rintro e w1 ⟨z,rfl,hz,c7,I⟩)|fail)
 have f8:z < 2:=Oo;have HY:Hid (Rdr w1 g a n cap (k+1)/\Kc g W w1/\TLs w1 W.heap.size (.slice (some ⟨W.heap.size,0,none⟩) 0 0) []):=hid ⟨c7,HX.out.2.1.trans I,HX.out.2.2.kc I V⟩;have c8:(2:Int)+(z:Int)=((2+z:Nat):Int):=Oo;rw[c8];clear HX KP c7 I hz c8;obtain⟨M,hM⟩:∃M,M=E.length:=⟨_,rfl⟩;rw[<-hM]at hE b9 ⊢;have HM:=hid hM;clear hM;go_wp2_with fail
 go_loopg [5,8,15] M (λgk t _ x wx=>∃(j:Nat) (rl:List TbC),x=.int .i64 j/\j<=M/\gk=M - j/\rl.length=j/\Hid (Rdr wx g a n cap (k+1+j*100)/\Kc g W wx/\TLs wx W.heap.size t rl/\∀i,i < j->TbG (E.getD i (.slice none 0 0,[])).2 3 (rl.getD i qg).t/\CpV (rl.getD i qg).v1/\CpV (rl.getD i qg).v2))
 case atStart=>exact⟨0,[],rfl,nZ _,rfl,rfl,hid ⟨HY.out.1,HY.out.2.1,HY.out.2.2,λi hi=>absurd hi (Nat.not_lt_zero _)⟩⟩
 case round=>
  clear HY;obtain⟨j,rl,rfl,hj,f9,a7,HI⟩:=hrel;obtain⟨hR,hK,hT,hG⟩:=HI.out;have HR:=hid hR;have HK:=hid hK;have HT:=hid hT;have HG:=hid hG;have HL:=hid a7;obtain⟨ax,cx,ex⟩:=qW hT.own;rw[a7]at ex;subst ex;clear HI hR hK hT hG a7;by_cases g4:j < M
  ·have j1:(j:Int) < (M:Int):=Oo;have e8:j < E.length:=by have:=HM.out;omega
   have c9:=HP.out.kc HK.out e2;obtain⟨c0,-,O⟩:=c9.cell e8;obtain⟨d0,d1,ed⟩:=O.form;have a2:=O.is;rw[ed]at c0 a2;have a3:=O.pos;have a4:=O.few;obtain⟨el,a8⟩:∃el,el=(E.getD j (.slice none 0 0,[])).2:=⟨_,rfl⟩;rw[<-a8]at a2 a3 a4 c0;have d6:=hid a8
   have KT:Hid (Cl 38 #[.pointer (some ⟨g,0,none⟩),.slice (some ⟨d0,0,none⟩) el.length d1,.int .i64 ((2+z:Nat):Int),.int .i64 9] wr λe w'=>∃r:TbC,e=.returned (.agg #[r.v0,r.v1,r.v2])/\Kc g wr w'/\Rdr w' g a n cap (k+1+j*100+100)/\Fz wr.heap.size (λX=>ITc X r) w'/\CpV r.v1/\CpV r.v2/\TbG el 3 r.t):=hid (by
    refine(XT wr g a n cap (k+1+j*100) HR.out hn Oo _ el a2 a3 a4 (2+z) Oo Oo).mono ?_;rintro e w' ⟨r,h1,h2,h3,h4,h5,h6,h7⟩;exact⟨r,h1,h2,h3,h4,h5,h6,h7.vs,h7.rows,λx hx y hy=>by have:=h7.lt x hx y hy;omega⟩)
   clear c9 O a2 ed a8;generalize el.length=ell at *;have e9:W.heap.size<=wr.heap.size:=HK.out.size;go_upto_region 6 with fail
   go_wp2_with (first
    |(go_at_call 38;refine KT.out.mono ?_;rintro e w1 ⟨r,rfl,I,d7,a9,d8,d9,e0⟩;have b0:=hid (yY HT.out.own I V);have g5:=I.size)
    |(at_builtin;refine wpList_append_lies _ rfl _ _ 23 rfl W.heap.size 34 iT (.agg #[.slice none 0 0,.slice none 0 0,.slice none 0 0]) 3 72 Tryz.underlying23 e3 e4 a6 e5 rfl Dd (.slice ax j cx) j _ rfl (by have:=b0.out.alloc (.cells #[r.v0,r.v1,r.v2] 34);rw[HL.out]at this;exact this) ⟨w1.heap.size,0,none⟩ 1 1 [r.v0,r.v1,r.v2] rfl rfl (World.news_of_block (heap_alloc_new w1 _)) (λu hu=>by obtain⟨q1,q2,q3⟩:=qFE (a9.self);simp at hu;rcases hu with rfl|rfl|rfl <;> assumption) Dd (by unfold maxLen;omega) Oo (by rw[World.size_alloc];omega) _ rfl ?_;intro g2 f4 w2 U K a5 e1)
    |fail)
   have b7:Below W.heap.size w1 w2:=((bM _ _).alloc Oo _).grown K (by rw[World.size_alloc];omega) (λc hc=>(b0.out.lt c hc).1);have hl:=HL.out
   have HZ:Hid (Rdr w2 g a n cap (k+1+(j+1)*100)/\Kc g W w2/\TLs w2 W.heap.size (.slice (some ⟨g2,0,none⟩) (j+1) f4) (rl++[r])/\∀i,i < j+1->TbG (E.getD i (.slice none 0 0,[])).2 3 ((rl++[r]).getD i qg).t/\CpV ((rl++[r]).getD i qg).v1/\CpV ((rl++[r]).getD i qg).v2):=hid ⟨(d7.mono Oo).above b7 V e6.out,(HK.out.trans I).below b7,by
    have a6:TLs wr W.heap.size (.slice ax rl.length cx) rl:=by rw[hl];exact HT.out
    have:=a6.push I V e9 a9 (by rw[hl];exact K) (by rw[hl];exact U) (by rw[hl];exact a5);rw[hl]at this
    exact this,λi hi=>by
     by_cases e:i < j
     ·rw[jN Oo];exact HG.out i e
     ·obtain rfl:i=j:=Oo;rw[<-hl,kY,hl,<-d6.out];exact⟨e0,d8,d9⟩⟩
   have f7:Hid ((rl++[r]).length=j+1):=hid (by simp[hl]);clear b7 hl U K a5 e1 d7 I a9 d8 d9 e0 b0 KT d6 HG HT HR;go_wp2_with fail
   go_roundg (M - (j+1))
   case measure=>omega
   case rel=>exact⟨j+1,_,Gg,Oo,rfl,f7.out,HZ⟩
  ·obtain rfl:j=M:=Oo;have j1:¬(j:Int) < (j:Int):=Oo;go_wp2_with fail
   go_ret;exact⟨_,rfl,rl,HT.out,by rw[HL.out,HM.out],λi hi=>HG.out i (by have:=HM.out;omega),HK.out,HR.out.mono Oo⟩
end Go.Proofs.YtkaipapdlnojiaaGreat
