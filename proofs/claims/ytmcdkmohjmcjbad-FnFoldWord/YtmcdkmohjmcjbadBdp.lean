/- Words on memory: whole arrays by value, out of rows and into rows. No program is named here. -/

